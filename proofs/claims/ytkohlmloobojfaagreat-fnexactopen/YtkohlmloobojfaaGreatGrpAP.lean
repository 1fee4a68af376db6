/- Lemmas on the way, of several texts: LendMath, SpecLend, SpecTold, SpecCon, EngMath, EngRead. -/
import Derived.Test.YtkohlmloobojfaaGreatGrpAM
import Derived.Test.YtkohlmloobojfaaGreatGrpAK
import Derived.Deep.RegionHeld3
import Derived.Deep.DeepCutAuto
import Derived.Test.YtkohlmloobojfaaGreatGrpAO
import Derived.Test.YtkohlmloobojfaaGreatGrpAL
import Derived.Test.YtkohlmloobojfaaGreatGrpAOX1
import Derived.Test.YtkohlmloobojfaaGreatGrpAD
import Derived.Test.YtkohlmloobojfaaGreatGrpAF
namespace Go.Proofs.YtkohlmloobojfaaGreat
open Go.ChangeShapes Go.WideShapes Go.ChangeAt Go.RowKit
set_option maxRecDepth 100000
set_option linter.unusedVariables false
set_option linter.unusedSimpArgs false
def bokQ (b : Q4) : Bool := bokB b.1 b.2.1 b.2.2.1 b.2.2.2
/-- Class t's two buckets are right at a time. -/
def pairB (at' : Int) (a b t : Q4) : Bool := (((((((bokQ a && bokQ b) && decide (a.2.2.2 = at')) && decide (b.2.2.2 = at')) && decide (a.1 = t.2.1)) && decide (b.1 = t.2.2.1)) && decide (a.2.1 = t.2.2.2)) && decide (b.2.1 = t.2.2.2))
def atOf (O : List Q4) : Int := match O[0]? with | some b => b.2.2.2 | none => 0
def pairAt (T O P : List Q4) (k : Nat) : Bool := match T[k]?, O[k]?, P[k]? with | some t, some a, some b => pairB (atOf O) a b t | _, _, _ => false
def pairTo (T O P : List Q4) : Nat → Bool
  | 0 => true
  | k + 1 => pairTo T O P k && pairAt T O P k
def lendB (T O P : List Q4) : Bool := ((decide (treeCode T = 0) && decide (O.length = T.length)) && decide (P.length = T.length)) && pairTo T O P T.length
theorem pair_stays {T O P : List Q4} {k : Nat} (h : pairTo T O P k = false) : ∀ d, pairTo T O P (k + d) = false
  | 0 => h
  | d + 1 => by
    show (pairTo T O P (k + d) && _) = false
    rw [pair_stays h d]
    rfl
theorem pair_bad {T O P : List Q4} {k n : Nat} (h : pairAt T O P k = false) (hk : k < n) : pairTo T O P n = false := by
  have e : pairTo T O P (k + 1) = false := by
    show (pairTo T O P k && pairAt T O P k) = false
    rw [h, Bool.and_false]
  have s := pair_stays e (n - (k + 1))
  rw [show k + 1 + (n - (k + 1)) = n by omega] at s
  exact s
theorem pair_all {T O P : List Q4} : ∀ {n : Nat}, pairTo T O P n = true → ∀ k, k < n → pairAt T O P k = true
  | 0, _, k, hk => by cases hk
  | n + 1, h, k, hk => by
    have h' : (pairTo T O P n && pairAt T O P n) = true := h
    rw [Bool.and_eq_true] at h'
    by_cases e : k = n
    · subst e; exact h'.2
    · exact pair_all h'.1 k (by omega)
theorem pairAt_at {T O P : List Q4} {k : Nat} (h1 : k < T.length) (h2 : k < O.length) (h3 : k < P.length) : pairAt T O P k = pairB (atOf O) O[k] P[k] T[k] := by
  unfold pairAt
  rw [List.getElem?_eq_getElem h1, List.getElem?_eq_getElem h2, List.getElem?_eq_getElem h3]
/-- A Lend that is right. -/
structure IsLend (T O P : List Q4) : Prop where
  tree : IsTree T
  code : treeCode T = 0
  lo : O.length = T.length
  lp : P.length = T.length
  pair : ∀ k (h1 : k < T.length) (h2 : k < O.length) (h3 : k < P.length), pairB (atOf O) O[k] P[k] T[k] = true
theorem lend_of {T O P : List Q4} (h : lendB T O P = true) : IsLend T O P := by
  unfold lendB at h
  rw [Bool.and_eq_true, Bool.and_eq_true, Bool.and_eq_true] at h
  have hc := of_decide_eq_true h.1.1.1
  exact ⟨tree_of hc, hc, of_decide_eq_true h.1.1.2, of_decide_eq_true h.1.2, fun k h1 h2 h3 => by rw [← pairAt_at h1 h2 h3]; exact pair_all h.2 k h1⟩
structure PairOk (at' : Int) (a b t : Q4) : Prop where
  oka : bokQ a = true
  okb : bokQ b = true
  ta : a.2.2.2 = at'
  tb : b.2.2.2 = at'
  ra : a.1 = t.2.1
  rb : b.1 = t.2.2.1
  ua : a.2.1 = t.2.2.2
  ub : b.2.1 = t.2.2.2
theorem pair_ok {at' : Int} {a b t : Q4} (h : pairB at' a b t = true) : PairOk at' a b t := by
  unfold pairB at h
  simp only [Bool.and_eq_true, decide_eq_true_eq] at h
  exact ⟨h.1.1.1.1.1.1.1, h.1.1.1.1.1.1.2, h.1.1.1.1.1.2, h.1.1.1.1.2, h.1.1.1.2, h.1.1.2, h.1.2, h.2⟩
/-! Filling -/
def fillQ (now : Int) (b : Q4) : Q4 := (b.1, b.2.1, fillL b.1 b.2.1 b.2.2.1 b.2.2.2 now, fillT b.2.2.2 now)
def fills (now : Int) (O : List Q4) : List Q4 := O.map (fillQ now)
/-! Who lends -/
theorem sBok_is {r u l t : Int} {f : Bool} (h : bokB r u l t = f) (w : World) : Calls Tryz.prog 129 #[.agg #[.int .i64 r, .int .i64 u, .int .i64 l, .int .i64 t]] w fun e w' => e = .returned (.bool f) ∧ Below w.heap.size w w' := by subst h; exact specBucketOk_any r u l t w
theorem specTree_is {w : World} {a : Option Addr} (cap : Nat) {ts : List Q4} {c : Int} (hc : treeCode ts = c) (h : Quad w.heap.size w a ts) :
    Calls Tryz.prog 128 #[.slice a ts.length cap] w fun e w' => e = .returned (.int .i64 c) ∧ Below w.heap.size w w' := by subst hc; exact specTree_any cap h
theorem lend_no1 {T O P : List Q4} (h : ¬ treeCode T = 0) : lendB T O P = false := by unfold lendB; rw [decide_eq_false h]; rfl
theorem lend_no2 {T O P : List Q4} (h : ¬ O.length = T.length) : lendB T O P = false := by unfold lendB; rw [decide_eq_false h, Bool.and_false]; rfl
theorem lend_no3 {T O P : List Q4} (h : ¬ P.length = T.length) : lendB T O P = false := by unfold lendB; rw [decide_eq_false h, Bool.and_false]; rfl
theorem lend_no4 {T O P : List Q4} {k : Nat} (h : pairAt T O P k = false) (hk : k < T.length) : lendB T O P = false := by unfold lendB; rw [pair_bad h hk, Bool.and_false]
theorem lend_yes {T O P : List Q4} (h1 : treeCode T = 0) (h2 : O.length = T.length) (h3 : P.length = T.length) (h4 : pairTo T O P T.length = true) : lendB T O P = true := by
  unfold lendB
  rw [decide_eq_true h1, decide_eq_true h2, decide_eq_true h3, h4]
  rfl
theorem pairB_parts {A ar au al at' br bu bl bt tp tr tc tu : Int} : pairB A (ar, au, al, at') (br, bu, bl, bt) (tp, tr, tc, tu) = (((((((bokB ar au al at' && bokB br bu bl bt) && decide (at' = A)) && decide (bt = A)) && decide (ar = tr)) && decide (br = tc)) && decide (au = tu)) && decide (bu = tu)) := rfl
set_option maxHeartbeats 16000000 in
theorem specLendOk_any {w : World} {aT aO aP : Option Addr} (cT cO cP : Nat) {T O P : List Q4} (hT : Quad w.heap.size w aT T) (hO : Quad w.heap.size w aO O) (hP : Quad w.heap.size w aP P) :
    Calls Tryz.prog 67 #[lendV aT T.length cT aO O.length cO aP P.length cP] w fun e w' => e = .returned (.bool (lendB T O P)) ∧ Below w.heap.size w w' := by
  by_cases hc : treeCode T = 0
  rotate_left
  · have HC : Hid (lendB T O P = false) := lend_no1 hc
    have nb : Below w.heap.size w (w.alloc (.cells #[.slice aT T.length cT, .slice aO O.length cO, .slice aP P.length cP] 34)) := new_below _ _
    have hc' : (treeCode T == 0) = false := by simp [hc]
    go_enter Tryz.func67, Tryz.ntmps67
    go_wp2_with (first | (go_at_call 128; refine (specTree_any cT (hT.here nb)).mono ?_; rintro e w2 ⟨rfl, hb2⟩))
    go_ret
    exact ⟨retQ HC.out.symm, below_step nb hb2⟩
  by_cases hlo : O.length = T.length
  rotate_left
  · have HC : Hid (lendB T O P = false) := lend_no2 hlo
    have nb : Below w.heap.size w (w.alloc (.cells #[.slice aT T.length cT, .slice aO O.length cO, .slice aP P.length cP] 34)) := new_below _ _
    have hl' : ((O.length : Int) == (T.length : Int)) = false := by rw [beq_eq_false_iff_ne]; omega
    have c1 : (w.alloc (.cells #[.slice aT T.length cT, .slice aO O.length cO, .slice aP P.length cP] 34)).cell? ⟨w.heap.size, 1, none⟩ = some (.slice aO O.length cO) := by go_simp
    have zb : w.heap.size < (w.alloc (.cells #[.slice aT T.length cT, .slice aO O.length cO, .slice aP P.length cP] 34)).heap.size := by simp
    go_enter Tryz.func67, Tryz.ntmps67
    go_wp2_with (first | (go_at_call 128; refine (specTree_is cT hc (hT.here nb)).mono ?_; rintro e w2 ⟨rfl, hb2⟩; have k1 := (below_cells hb2 _ _ zb).trans c1))
    go_ret
    exact ⟨retQ HC.out.symm, below_step nb hb2⟩
  by_cases hlp : P.length = T.length
  rotate_left
  · have HC : Hid (lendB T O P = false) := lend_no3 hlp
    have HLO : Hid (O.length = T.length) := hlo
    rw [hlo]
    have nb : Below w.heap.size w (w.alloc (.cells #[.slice aT T.length cT, .slice aO T.length cO, .slice aP P.length cP] 34)) := new_below _ _
    have hl' : ((P.length : Int) == (T.length : Int)) = false := by rw [beq_eq_false_iff_ne]; omega
    have c1 : (w.alloc (.cells #[.slice aT T.length cT, .slice aO T.length cO, .slice aP P.length cP] 34)).cell? ⟨w.heap.size, 1, none⟩ = some (.slice aO T.length cO) := by go_simp
    have c2 : (w.alloc (.cells #[.slice aT T.length cT, .slice aO T.length cO, .slice aP P.length cP] 34)).cell? ⟨w.heap.size, 2, none⟩ = some (.slice aP P.length cP) := by go_simp
    have zb : w.heap.size < (w.alloc (.cells #[.slice aT T.length cT, .slice aO T.length cO, .slice aP P.length cP] 34)).heap.size := by simp
    clear hlo
    go_enter Tryz.func67, Tryz.ntmps67
    go_wp2_with (first | (go_at_call 128; refine (specTree_is cT hc (hT.here nb)).mono ?_; rintro e w2 ⟨rfl, hb2⟩; have k1 := (below_cells hb2 _ _ zb).trans c1; have k2 := (below_cells hb2 _ _ zb).trans c2))
    go_ret
    exact ⟨retQ HC.out.symm, below_step nb hb2⟩
  have ht := tree_of hc
  have hl1 := ht.l0
  have hl30 := ht.l1
  clear ht
  have HLO : Hid (O.length = T.length) := hlo
  have HLP : Hid (P.length = T.length) := hlp
  rw [hlo, hlp]
  clear hlo hlp
  have h0O : 0 < O.length := by have := HLO.out; omega
  have hln : (T.length : Int) ≤ 30 := by omega
  have hl0 : (0 : Int) < (T.length : Int) := by omega
  obtain ⟨A, hA⟩ : ∃ A, O[0].2.2.2 = A := ⟨_, rfl⟩
  have HA : Hid (atOf O = A) := by
    show atOf O = A
    unfold atOf
    rw [List.getElem?_eq_getElem h0O, ← hA]
  obtain ⟨bo, oo, hao, hbo, _, _, _, qA⟩ := hO.at (Below.refl _ _) 0 h0O
  rw [hA, Nat.zero_mul, Nat.add_zero] at qA
  subst hao
  clear hA
  have nb : Below w.heap.size w (w.alloc (.cells #[.slice aT T.length cT, .slice (some ⟨bo, oo, none⟩) T.length cO, .slice aP T.length cP] 34)) := new_below _ _
  have c0 : (w.alloc (.cells #[.slice aT T.length cT, .slice (some ⟨bo, oo, none⟩) T.length cO, .slice aP T.length cP] 34)).cell? ⟨w.heap.size, 0, none⟩ = some (.slice aT T.length cT) := by go_simp
  have c1 : (w.alloc (.cells #[.slice aT T.length cT, .slice (some ⟨bo, oo, none⟩) T.length cO, .slice aP T.length cP] 34)).cell? ⟨w.heap.size, 1, none⟩ = some (.slice (some ⟨bo, oo, none⟩) T.length cO) := by go_simp
  have c2 : (w.alloc (.cells #[.slice aT T.length cT, .slice (some ⟨bo, oo, none⟩) T.length cO, .slice aP T.length cP] 34)).cell? ⟨w.heap.size, 2, none⟩ = some (.slice aP T.length cP) := by go_simp
  have zb : w.heap.size < (w.alloc (.cells #[.slice aT T.length cT, .slice (some ⟨bo, oo, none⟩) T.length cO, .slice aP T.length cP] 34)).heap.size := by simp
  go_enter Tryz.func67, Tryz.ntmps67
  go_upto_region 5 with (go_at_call 128; refine (specTree_is cT hc (hT.here nb)).mono ?_; rintro e w2 ⟨rfl, hb2⟩; have k0 := (below_cells hb2 _ _ zb).trans c0; have k1 := (below_cells hb2 _ _ zb).trans c1; have k2 := (below_cells hb2 _ _ zb).trans c2; have kA := ((below_step nb hb2).cell (p := ⟨bo, oo + 3, none⟩) hbo).trans qA)
  go_wp2
  clear kA
  have hb0 : Below w.heap.size w w2 := below_step nb hb2
  have zb2 : w.heap.size < w2.heap.size := Nat.lt_of_lt_of_le zb hb2.size
  clear c0 c1 c2 zb nb hb2
  go_loopw [5] (fun i wr => ∃ k : Nat, i = .int .i64 k ∧ k ≤ T.length ∧ Hid (pairTo T O P k = true) ∧ Below w2.heap.size w2 wr) (fun i _ => T.length - (intOf i).toNat)
  case atStart => exact ⟨0, rfl, by omega, rfl, Below.refl _ _⟩
  case round =>
    obtain ⟨k, rfl, hk, HF, hbr⟩ := hrel
    have q0 := (below_cells hbr _ _ zb2).trans k0
    have q1 := (below_cells hbr _ _ zb2).trans k1
    have q2 := (below_cells hbr _ _ zb2).trans k2
    clear k0 k1 k2
    have hbw : Below w.heap.size w wr := below_step hb0 hbr
    have zr := hbr.size
    have zr' : w.heap.size < wr.heap.size := by omega
    by_cases hlt : k < T.length
    · have hlt' : (k : Int) < (T.length : Int) := by omega
      have hko : k < O.length := by have := HLO.out; omega
      have hkp : k < P.length := by have := HLP.out; omega
      obtain ⟨_, _, e1, hb1, x0, x1, x2, x3⟩ := hO.at hbw k hko
      cases e1
      obtain ⟨bp, op, rfl, hb4, y0, y1, y2, y3⟩ := hP.at hbw k hkp
      obtain ⟨bt', ot, rfl, hb5, t0, t1, t2, t3⟩ := hT.at hbw k hlt
      have HPA := pairAt_at hlt hko hkp
      obtain ⟨xa, hxa⟩ : ∃ x, O[k] = x := ⟨_, rfl⟩
      obtain ⟨xb, hxb⟩ : ∃ x, P[k] = x := ⟨_, rfl⟩
      obtain ⟨xt, hxt⟩ : ∃ x, T[k] = x := ⟨_, rfl⟩
      rw [hxa, hxb, hxt, HA.out] at HPA
      rw [hxa] at x0 x1 x2 x3
      rw [hxb] at y0 y1 y2 y3
      rw [hxt] at t0 t1 t2 t3
      obtain ⟨ar, au, al, at'⟩ := xa
      obtain ⟨br, bu, bl, bt⟩ := xb
      obtain ⟨tp, tr, tc, tu⟩ := xt
      simp only at x0 x1 x2 x3 y0 y1 y2 y3 t0 t1 t2 t3
      clear hxa hxb hxt
      have HPA : Hid (pairAt T O P k = pairB A (ar, au, al, at') (br, bu, bl, bt) (tp, tr, tc, tu)) := HPA
      have hbq : Below w2.heap.size w2 (((wr.alloc (.cells #[.int .i64 ar, .int .i64 au, .int .i64 al, .int .i64 at'] 105)).alloc (.cells #[.int .i64 br, .int .i64 bu, .int .i64 bl, .int .i64 bt] 105)).alloc (.cells #[.int .i64 tp, .int .i64 tr, .int .i64 tc, .int .i64 tu] 109)) := by go_grown
      have hbq2 : Below w.heap.size w (((wr.alloc (.cells #[.int .i64 ar, .int .i64 au, .int .i64 al, .int .i64 at'] 105)).alloc (.cells #[.int .i64 br, .int .i64 bu, .int .i64 bl, .int .i64 bt] 105)).alloc (.cells #[.int .i64 tp, .int .i64 tr, .int .i64 tc, .int .i64 tu] 109)) := by go_grown
      have KC : Hid (Cells (((wr.alloc (.cells #[.int .i64 ar, .int .i64 au, .int .i64 al, .int .i64 at'] 105)).alloc (.cells #[.int .i64 br, .int .i64 bu, .int .i64 bl, .int .i64 bt] 105)).alloc (.cells #[.int .i64 tp, .int .i64 tr, .int .i64 tc, .int .i64 tu] 109)) [(wr.heap.size, 0, .int .i64 ar), (wr.heap.size, 1, .int .i64 au), (wr.heap.size, 2, .int .i64 al), (wr.heap.size, 3, .int .i64 at'), (wr.heap.size + 1, 0, .int .i64 br), (wr.heap.size + 1, 1, .int .i64 bu), (wr.heap.size + 1, 2, .int .i64 bl), (wr.heap.size + 1, 3, .int .i64 bt), (wr.heap.size + 2, 0, .int .i64 tp), (wr.heap.size + 2, 1, .int .i64 tr), (wr.heap.size + 2, 2, .int .i64 tc), (wr.heap.size + 2, 3, .int .i64 tu)]) := ⟨⟨by simp <;> omega, by go_simp⟩, ⟨by simp <;> omega, by go_simp⟩, ⟨by simp <;> omega, by go_simp⟩, ⟨by simp <;> omega, by go_simp⟩, ⟨by simp <;> omega, by go_simp⟩, ⟨by simp <;> omega, by go_simp⟩, ⟨by simp <;> omega, by go_simp⟩, ⟨by simp <;> omega, by go_simp⟩, ⟨by simp <;> omega, by go_simp⟩, ⟨by simp <;> omega, by go_simp⟩, ⟨by simp <;> omega, by go_simp⟩, ⟨by simp <;> omega, by go_simp⟩, trivial⟩
      have s1 : bo < wr.heap.size := by omega
      have s2 : bp < wr.heap.size := by omega
      have s3 : bt' < wr.heap.size := by omega
      have s4 : bt' < wr.heap.size + 1 := by omega
      have s5 : w.heap.size < wr.heap.size + 1 := by omega
      cases h1 : bokB ar au al at'
      · skip
        have HC : Hid (lendB T O P = false) := lend_no4 (k := k) (by rw [HPA.out, pairB_parts]; simp [h1]) hlt
        clear HPA
        go_upto_region 11 with (fail)
        go_wp2_with (first | (go_at_call 129; refine (sBok_is h1 _).mono ?_; rintro e w5 ⟨rfl, hb2⟩; have C2 : Hid (Cells w5 [(wr.heap.size, 0, .int .i64 ar), (wr.heap.size, 1, .int .i64 au), (wr.heap.size, 2, .int .i64 al), (wr.heap.size, 3, .int .i64 at'), (wr.heap.size + 1, 0, .int .i64 br), (wr.heap.size + 1, 1, .int .i64 bu), (wr.heap.size + 1, 2, .int .i64 bl), (wr.heap.size + 1, 3, .int .i64 bt), (wr.heap.size + 2, 0, .int .i64 tp), (wr.heap.size + 2, 1, .int .i64 tr), (wr.heap.size + 2, 2, .int .i64 tc), (wr.heap.size + 2, 3, .int .i64 tu)]) := KC.out.next hb2; have ⟨⟨_, k0⟩, ⟨_, k1⟩, ⟨_, k2⟩, ⟨_, k3⟩, ⟨_, k4⟩, ⟨_, k5⟩, ⟨_, k6⟩, ⟨_, k7⟩, ⟨_, k8⟩, ⟨_, k9⟩, ⟨_, k10⟩, ⟨_, k11⟩, _⟩ := C2.out; have hby := below_step hbq hb2; have hby2 := below_step hbq2 hb2; have m1 := h1))
        go_ret
        exact ⟨retQ HC.out.symm, hby2⟩
      · skip
        cases h2 : bokB br bu bl bt
        · skip
          have HC : Hid (lendB T O P = false) := lend_no4 (k := k) (by rw [HPA.out, pairB_parts]; simp [h1, h2]) hlt
          clear HPA
          go_upto_region 11 with (fail)
          go_wp2_with (first | (go_at_call 129; have g1 := m1; refine (sBok_is h2 _).mono ?_; rintro e w6 ⟨rfl, hb3⟩; have C3 := C2.out.next hb3; have ⟨⟨_, j0⟩, ⟨_, j1⟩, ⟨_, j2⟩, ⟨_, j3⟩, ⟨_, j4⟩, ⟨_, j5⟩, ⟨_, j6⟩, ⟨_, j7⟩, ⟨_, j8⟩, ⟨_, j9⟩, ⟨_, j10⟩, ⟨_, j11⟩, _⟩ := C3; clear C3; have hbz := below_step hby hb3; have hbz2 := below_step hby2 hb3) | (go_at_call 129; refine (sBok_is h1 _).mono ?_; rintro e w5 ⟨rfl, hb2⟩; have C2 : Hid (Cells w5 [(wr.heap.size, 0, .int .i64 ar), (wr.heap.size, 1, .int .i64 au), (wr.heap.size, 2, .int .i64 al), (wr.heap.size, 3, .int .i64 at'), (wr.heap.size + 1, 0, .int .i64 br), (wr.heap.size + 1, 1, .int .i64 bu), (wr.heap.size + 1, 2, .int .i64 bl), (wr.heap.size + 1, 3, .int .i64 bt), (wr.heap.size + 2, 0, .int .i64 tp), (wr.heap.size + 2, 1, .int .i64 tr), (wr.heap.size + 2, 2, .int .i64 tc), (wr.heap.size + 2, 3, .int .i64 tu)]) := KC.out.next hb2; have ⟨⟨_, k0⟩, ⟨_, k1⟩, ⟨_, k2⟩, ⟨_, k3⟩, ⟨_, k4⟩, ⟨_, k5⟩, ⟨_, k6⟩, ⟨_, k7⟩, ⟨_, k8⟩, ⟨_, k9⟩, ⟨_, k10⟩, ⟨_, k11⟩, _⟩ := C2.out; have hby := below_step hbq hb2; have hby2 := below_step hbq2 hb2; have m1 := h1))
          go_ret
          exact ⟨retQ HC.out.symm, hbz2⟩
        · skip
          by_cases h3 : at' = A
          rotate_left
          · skip
            have HC : Hid (lendB T O P = false) := lend_no4 (k := k) (by rw [HPA.out, pairB_parts]; simp [h1, h2, h3]) hlt
            have h3' : (at' == A) = false := by simp [h3]
            clear HPA
            go_upto_region 11 with (fail)
            go_wp2_with (first | (go_at_call 129; have g1 := m1; refine (sBok_is h2 _).mono ?_; rintro e w6 ⟨rfl, hb3⟩; have C3 := C2.out.next hb3; have ⟨⟨_, j0⟩, ⟨_, j1⟩, ⟨_, j2⟩, ⟨_, j3⟩, ⟨_, j4⟩, ⟨_, j5⟩, ⟨_, j6⟩, ⟨_, j7⟩, ⟨_, j8⟩, ⟨_, j9⟩, ⟨_, j10⟩, ⟨_, j11⟩, _⟩ := C3; clear C3; have hbz := below_step hby hb3; have hbz2 := below_step hby2 hb3) | (go_at_call 129; refine (sBok_is h1 _).mono ?_; rintro e w5 ⟨rfl, hb2⟩; have C2 : Hid (Cells w5 [(wr.heap.size, 0, .int .i64 ar), (wr.heap.size, 1, .int .i64 au), (wr.heap.size, 2, .int .i64 al), (wr.heap.size, 3, .int .i64 at'), (wr.heap.size + 1, 0, .int .i64 br), (wr.heap.size + 1, 1, .int .i64 bu), (wr.heap.size + 1, 2, .int .i64 bl), (wr.heap.size + 1, 3, .int .i64 bt), (wr.heap.size + 2, 0, .int .i64 tp), (wr.heap.size + 2, 1, .int .i64 tr), (wr.heap.size + 2, 2, .int .i64 tc), (wr.heap.size + 2, 3, .int .i64 tu)]) := KC.out.next hb2; have ⟨⟨_, k0⟩, ⟨_, k1⟩, ⟨_, k2⟩, ⟨_, k3⟩, ⟨_, k4⟩, ⟨_, k5⟩, ⟨_, k6⟩, ⟨_, k7⟩, ⟨_, k8⟩, ⟨_, k9⟩, ⟨_, k10⟩, ⟨_, k11⟩, _⟩ := C2.out; have hby := below_step hbq hb2; have hby2 := below_step hbq2 hb2; have m1 := h1))
            go_ret
            exact ⟨retQ HC.out.symm, hbz2⟩
          · subst at'
            by_cases h4 : bt = A
            rotate_left
            · skip
              have HC : Hid (lendB T O P = false) := lend_no4 (k := k) (by rw [HPA.out, pairB_parts]; simp [h1, h2, h4]) hlt
              have h4' : (bt == A) = false := by simp [h4]
              clear HPA
              go_upto_region 11 with (fail)
              go_wp2_with (first | (go_at_call 129; have g1 := m1; refine (sBok_is h2 _).mono ?_; rintro e w6 ⟨rfl, hb3⟩; have C3 := C2.out.next hb3; have ⟨⟨_, j0⟩, ⟨_, j1⟩, ⟨_, j2⟩, ⟨_, j3⟩, ⟨_, j4⟩, ⟨_, j5⟩, ⟨_, j6⟩, ⟨_, j7⟩, ⟨_, j8⟩, ⟨_, j9⟩, ⟨_, j10⟩, ⟨_, j11⟩, _⟩ := C3; clear C3; have hbz := below_step hby hb3; have hbz2 := below_step hby2 hb3) | (go_at_call 129; refine (sBok_is h1 _).mono ?_; rintro e w5 ⟨rfl, hb2⟩; have C2 : Hid (Cells w5 [(wr.heap.size, 0, .int .i64 ar), (wr.heap.size, 1, .int .i64 au), (wr.heap.size, 2, .int .i64 al), (wr.heap.size, 3, .int .i64 A), (wr.heap.size + 1, 0, .int .i64 br), (wr.heap.size + 1, 1, .int .i64 bu), (wr.heap.size + 1, 2, .int .i64 bl), (wr.heap.size + 1, 3, .int .i64 bt), (wr.heap.size + 2, 0, .int .i64 tp), (wr.heap.size + 2, 1, .int .i64 tr), (wr.heap.size + 2, 2, .int .i64 tc), (wr.heap.size + 2, 3, .int .i64 tu)]) := KC.out.next hb2; have ⟨⟨_, k0⟩, ⟨_, k1⟩, ⟨_, k2⟩, ⟨_, k3⟩, ⟨_, k4⟩, ⟨_, k5⟩, ⟨_, k6⟩, ⟨_, k7⟩, ⟨_, k8⟩, ⟨_, k9⟩, ⟨_, k10⟩, ⟨_, k11⟩, _⟩ := C2.out; have hby := below_step hbq hb2; have hby2 := below_step hbq2 hb2; have m1 := h1))
              go_ret
              exact ⟨retQ HC.out.symm, hbz2⟩
            · subst bt
              by_cases h5 : ar = tr
              rotate_left
              · skip
                have HC : Hid (lendB T O P = false) := lend_no4 (k := k) (by rw [HPA.out, pairB_parts]; simp [h1, h2, h5]) hlt
                have h5' : (ar == tr) = false := by simp [h5]
                clear HPA
                go_upto_region 11 with (fail)
                go_wp2_with (first | (go_at_call 129; have g1 := m1; refine (sBok_is h2 _).mono ?_; rintro e w6 ⟨rfl, hb3⟩; have C3 := C2.out.next hb3; have ⟨⟨_, j0⟩, ⟨_, j1⟩, ⟨_, j2⟩, ⟨_, j3⟩, ⟨_, j4⟩, ⟨_, j5⟩, ⟨_, j6⟩, ⟨_, j7⟩, ⟨_, j8⟩, ⟨_, j9⟩, ⟨_, j10⟩, ⟨_, j11⟩, _⟩ := C3; clear C3; have hbz := below_step hby hb3; have hbz2 := below_step hby2 hb3) | (go_at_call 129; refine (sBok_is h1 _).mono ?_; rintro e w5 ⟨rfl, hb2⟩; have C2 : Hid (Cells w5 [(wr.heap.size, 0, .int .i64 ar), (wr.heap.size, 1, .int .i64 au), (wr.heap.size, 2, .int .i64 al), (wr.heap.size, 3, .int .i64 A), (wr.heap.size + 1, 0, .int .i64 br), (wr.heap.size + 1, 1, .int .i64 bu), (wr.heap.size + 1, 2, .int .i64 bl), (wr.heap.size + 1, 3, .int .i64 A), (wr.heap.size + 2, 0, .int .i64 tp), (wr.heap.size + 2, 1, .int .i64 tr), (wr.heap.size + 2, 2, .int .i64 tc), (wr.heap.size + 2, 3, .int .i64 tu)]) := KC.out.next hb2; have ⟨⟨_, k0⟩, ⟨_, k1⟩, ⟨_, k2⟩, ⟨_, k3⟩, ⟨_, k4⟩, ⟨_, k5⟩, ⟨_, k6⟩, ⟨_, k7⟩, ⟨_, k8⟩, ⟨_, k9⟩, ⟨_, k10⟩, ⟨_, k11⟩, _⟩ := C2.out; have hby := below_step hbq hb2; have hby2 := below_step hbq2 hb2; have m1 := h1))
                go_ret
                exact ⟨retQ HC.out.symm, hbz2⟩
              · subst ar
                by_cases h6 : br = tc
                rotate_left
                · skip
                  have HC : Hid (lendB T O P = false) := lend_no4 (k := k) (by rw [HPA.out, pairB_parts]; simp [h1, h2, h6]) hlt
                  have h6' : (br == tc) = false := by simp [h6]
                  clear HPA
                  go_upto_region 11 with (fail)
                  go_wp2_with (first | (go_at_call 129; have g1 := m1; refine (sBok_is h2 _).mono ?_; rintro e w6 ⟨rfl, hb3⟩; have C3 := C2.out.next hb3; have ⟨⟨_, j0⟩, ⟨_, j1⟩, ⟨_, j2⟩, ⟨_, j3⟩, ⟨_, j4⟩, ⟨_, j5⟩, ⟨_, j6⟩, ⟨_, j7⟩, ⟨_, j8⟩, ⟨_, j9⟩, ⟨_, j10⟩, ⟨_, j11⟩, _⟩ := C3; clear C3; have hbz := below_step hby hb3; have hbz2 := below_step hby2 hb3) | (go_at_call 129; refine (sBok_is h1 _).mono ?_; rintro e w5 ⟨rfl, hb2⟩; have C2 : Hid (Cells w5 [(wr.heap.size, 0, .int .i64 tr), (wr.heap.size, 1, .int .i64 au), (wr.heap.size, 2, .int .i64 al), (wr.heap.size, 3, .int .i64 A), (wr.heap.size + 1, 0, .int .i64 br), (wr.heap.size + 1, 1, .int .i64 bu), (wr.heap.size + 1, 2, .int .i64 bl), (wr.heap.size + 1, 3, .int .i64 A), (wr.heap.size + 2, 0, .int .i64 tp), (wr.heap.size + 2, 1, .int .i64 tr), (wr.heap.size + 2, 2, .int .i64 tc), (wr.heap.size + 2, 3, .int .i64 tu)]) := KC.out.next hb2; have ⟨⟨_, k0⟩, ⟨_, k1⟩, ⟨_, k2⟩, ⟨_, k3⟩, ⟨_, k4⟩, ⟨_, k5⟩, ⟨_, k6⟩, ⟨_, k7⟩, ⟨_, k8⟩, ⟨_, k9⟩, ⟨_, k10⟩, ⟨_, k11⟩, _⟩ := C2.out; have hby := below_step hbq hb2; have hby2 := below_step hbq2 hb2; have m1 := h1))
                  go_ret
                  exact ⟨retQ HC.out.symm, hbz2⟩
                · subst br
                  by_cases h7 : au = tu
                  rotate_left
                  · skip
                    have HC : Hid (lendB T O P = false) := lend_no4 (k := k) (by rw [HPA.out, pairB_parts]; simp [h1, h2, h7]) hlt
                    have h7' : (au == tu) = false := by simp [h7]
                    clear HPA
                    go_upto_region 11 with (fail)
                    go_wp2_with (first | (go_at_call 129; have g1 := m1; refine (sBok_is h2 _).mono ?_; rintro e w6 ⟨rfl, hb3⟩; have C3 := C2.out.next hb3; have ⟨⟨_, j0⟩, ⟨_, j1⟩, ⟨_, j2⟩, ⟨_, j3⟩, ⟨_, j4⟩, ⟨_, j5⟩, ⟨_, j6⟩, ⟨_, j7⟩, ⟨_, j8⟩, ⟨_, j9⟩, ⟨_, j10⟩, ⟨_, j11⟩, _⟩ := C3; clear C3; have hbz := below_step hby hb3; have hbz2 := below_step hby2 hb3) | (go_at_call 129; refine (sBok_is h1 _).mono ?_; rintro e w5 ⟨rfl, hb2⟩; have C2 : Hid (Cells w5 [(wr.heap.size, 0, .int .i64 tr), (wr.heap.size, 1, .int .i64 au), (wr.heap.size, 2, .int .i64 al), (wr.heap.size, 3, .int .i64 A), (wr.heap.size + 1, 0, .int .i64 tc), (wr.heap.size + 1, 1, .int .i64 bu), (wr.heap.size + 1, 2, .int .i64 bl), (wr.heap.size + 1, 3, .int .i64 A), (wr.heap.size + 2, 0, .int .i64 tp), (wr.heap.size + 2, 1, .int .i64 tr), (wr.heap.size + 2, 2, .int .i64 tc), (wr.heap.size + 2, 3, .int .i64 tu)]) := KC.out.next hb2; have ⟨⟨_, k0⟩, ⟨_, k1⟩, ⟨_, k2⟩, ⟨_, k3⟩, ⟨_, k4⟩, ⟨_, k5⟩, ⟨_, k6⟩, ⟨_, k7⟩, ⟨_, k8⟩, ⟨_, k9⟩, ⟨_, k10⟩, ⟨_, k11⟩, _⟩ := C2.out; have hby := below_step hbq hb2; have hby2 := below_step hbq2 hb2; have m1 := h1))
                    go_ret
                    exact ⟨retQ HC.out.symm, hbz2⟩
                  · subst au
                    by_cases h8 : bu = tu
                    rotate_left
                    · skip
                      have HC : Hid (lendB T O P = false) := lend_no4 (k := k) (by rw [HPA.out, pairB_parts]; simp [h1, h2, h8]) hlt
                      have h8' : (bu == tu) = false := by simp [h8]
                      clear HPA
                      go_upto_region 11 with (fail)
                      go_wp2_with (first | (go_at_call 129; have g1 := m1; refine (sBok_is h2 _).mono ?_; rintro e w6 ⟨rfl, hb3⟩; have C3 := C2.out.next hb3; have ⟨⟨_, j0⟩, ⟨_, j1⟩, ⟨_, j2⟩, ⟨_, j3⟩, ⟨_, j4⟩, ⟨_, j5⟩, ⟨_, j6⟩, ⟨_, j7⟩, ⟨_, j8⟩, ⟨_, j9⟩, ⟨_, j10⟩, ⟨_, j11⟩, _⟩ := C3; clear C3; have hbz := below_step hby hb3; have hbz2 := below_step hby2 hb3) | (go_at_call 129; refine (sBok_is h1 _).mono ?_; rintro e w5 ⟨rfl, hb2⟩; have C2 : Hid (Cells w5 [(wr.heap.size, 0, .int .i64 tr), (wr.heap.size, 1, .int .i64 tu), (wr.heap.size, 2, .int .i64 al), (wr.heap.size, 3, .int .i64 A), (wr.heap.size + 1, 0, .int .i64 tc), (wr.heap.size + 1, 1, .int .i64 bu), (wr.heap.size + 1, 2, .int .i64 bl), (wr.heap.size + 1, 3, .int .i64 A), (wr.heap.size + 2, 0, .int .i64 tp), (wr.heap.size + 2, 1, .int .i64 tr), (wr.heap.size + 2, 2, .int .i64 tc), (wr.heap.size + 2, 3, .int .i64 tu)]) := KC.out.next hb2; have ⟨⟨_, k0⟩, ⟨_, k1⟩, ⟨_, k2⟩, ⟨_, k3⟩, ⟨_, k4⟩, ⟨_, k5⟩, ⟨_, k6⟩, ⟨_, k7⟩, ⟨_, k8⟩, ⟨_, k9⟩, ⟨_, k10⟩, ⟨_, k11⟩, _⟩ := C2.out; have hby := below_step hbq hb2; have hby2 := below_step hbq2 hb2; have m1 := h1))
                      go_ret
                      exact ⟨retQ HC.out.symm, hbz2⟩
                    · subst bu
                      have HPB : Hid (pairTo T O P (k + 1) = true) := by
                        show (pairTo T O P k && pairAt T O P k) = true
                        rw [HF.out, HPA.out, pairB_parts]
                        simp [h1, h2]
                      clear HPA
                      go_upto_region 11 with (fail)
                      go_wp2_with (first | (go_at_call 129; have g1 := m1; refine (sBok_is h2 _).mono ?_; rintro e w6 ⟨rfl, hb3⟩; have C3 := C2.out.next hb3; have ⟨⟨_, j0⟩, ⟨_, j1⟩, ⟨_, j2⟩, ⟨_, j3⟩, ⟨_, j4⟩, ⟨_, j5⟩, ⟨_, j6⟩, ⟨_, j7⟩, ⟨_, j8⟩, ⟨_, j9⟩, ⟨_, j10⟩, ⟨_, j11⟩, _⟩ := C3; clear C3; have hbz := below_step hby hb3; have hbz2 := below_step hby2 hb3) | (go_at_call 129; refine (sBok_is h1 _).mono ?_; rintro e w5 ⟨rfl, hb2⟩; have C2 : Hid (Cells w5 [(wr.heap.size, 0, .int .i64 tr), (wr.heap.size, 1, .int .i64 tu), (wr.heap.size, 2, .int .i64 al), (wr.heap.size, 3, .int .i64 A), (wr.heap.size + 1, 0, .int .i64 tc), (wr.heap.size + 1, 1, .int .i64 tu), (wr.heap.size + 1, 2, .int .i64 bl), (wr.heap.size + 1, 3, .int .i64 A), (wr.heap.size + 2, 0, .int .i64 tp), (wr.heap.size + 2, 1, .int .i64 tr), (wr.heap.size + 2, 2, .int .i64 tc), (wr.heap.size + 2, 3, .int .i64 tu)]) := KC.out.next hb2; have ⟨⟨_, k0⟩, ⟨_, k1⟩, ⟨_, k2⟩, ⟨_, k3⟩, ⟨_, k4⟩, ⟨_, k5⟩, ⟨_, k6⟩, ⟨_, k7⟩, ⟨_, k8⟩, ⟨_, k9⟩, ⟨_, k10⟩, ⟨_, k11⟩, _⟩ := C2.out; have hby := below_step hbq hb2; have hby2 := below_step hbq2 hb2; have m1 := h1))
                      go_roundw
                      case rel => exact ⟨k + 1, by go_num, by omega, HPB, hbz⟩
                      case measure => first | (simp [intOf]; done) | (simp [intOf]; omega)
    · have e : k = T.length := by omega
      subst e
      have HC : Hid (lendB T O P = true) := lend_yes hc HLO.out HLP.out HF.out
      go_wp2
      go_ret
      exact ⟨retQ HC.out.symm, hbw⟩
theorem specLendOk_is {w : World} {aT aO aP : Option Addr} (cT cO cP : Nat) {T O P : List Q4} {f : Bool} (hf : lendB T O P = f) (hT : Quad w.heap.size w aT T) (hO : Quad w.heap.size w aO O) (hP : Quad w.heap.size w aP P) :
    Calls Tryz.prog 67 #[lendV aT T.length cT aO O.length cO aP P.length cP] w fun e w' => e = .returned (.bool f) ∧ Below w.heap.size w w' := by subst hf; exact specLendOk_any cT cO cP hT hO hP
theorem sTime_is {x : Int} {f : Bool} (h : timeB x = f) (w : World) : Calls Tryz.prog 66 #[.int .i64 x] w fun e w' => e = .returned (.bool f) ∧ w' = w := by subst h; exact time_any x w
theorem sSeg_is {x : Int} {f : Bool} (h : segB x = f) (w : World) : Calls Tryz.prog 130 #[.int .i64 x] w fun e w' => e = .returned (.bool f) ∧ w' = w := by subst h; exact seg_any x w
theorem sLeaf_is {w : World} {a : Option Addr} (cap : Nat) {ts : List Q4} {i : Int} {f : Bool} (hf : leafB ts i = f) (h : Quad w.heap.size w a ts) (hl : ts.length ≤ 1048576) :
    Calls Tryz.prog 27 #[.slice a ts.length cap, .int .i64 i] w fun e w' => e = .returned (.bool f) ∧ w' = w := by subst hf; exact specLeaf_any cap i h hl
def conB (T : List Q4) (nL : Nat) (c : Kn) : Bool := (((((((inQ 0 c.id 1000000) && inQ 0 c.lf ((T.length : Int) - 1)) && leafB T c.lf) && inQ 0 c.pl ((nL : Int) - 1)) && ccB c.k c.wn c.th c.fl c.ac c.la c.og c.st c.fr) && !decide (c.k = 3)) && decide (c.xs.length ≤ 100)) && c.xs.all segB
theorem all_step {xs : List Int} {k : Nat} (h : k < xs.length) (hf : ∀ j (hj : j < xs.length), j < k → segB xs[j] = true) (e : segB xs[k] = true) : ∀ j (hj : j < xs.length), j < k + 1 → segB xs[j] = true := fun j hj hk => by
  by_cases hjk : j = k
  · subst hjk; exact e
  · exact hf j hj (by omega)
theorem all_done {xs : List Int} (hf : ∀ j (hj : j < xs.length), j < xs.length → segB xs[j] = true) : xs.all segB = true := by
  rw [List.all_eq_true]
  intro x hx
  obtain ⟨i, hi, rfl⟩ := List.mem_iff_getElem.1 hx
  exact hf i hi hi
theorem all_not {xs : List Int} {k : Nat} (h : k < xs.length) (e : segB xs[k] = false) : xs.all segB = false := by
  rw [List.all_eq_false]
  exact ⟨_, List.getElem_mem h, by rw [e]; simp⟩
theorem retC {f g : Bool} (h : f = g) : Ending.returned (.bool f) = .returned (.bool g) := by rw [h]
set_option maxHeartbeats 8000000 in
theorem specConn_any {w : World} (now nx : Int) {aT aO aP aL aK sa : Option Addr} {cT nO cO nP cP nL cL nK cK sc : Nat} {T : List Q4} (c : Kn) (hT : Quad w.heap.size w aT T) (hl : T.length ≤ 1048576) (hL : nL ≤ 1048576) (hs : ISmp w.heap.size w sa c.xs) (hm : c.xs.length ≤ maxLen) :
    Calls Tryz.prog 68 #[engV now aT T.length cT aO nO cO aP nP cP aL nL cL aK nK cK nx, .agg #[.int .i64 c.id, .int .i64 c.lf, .int .i64 c.pl, .int .i64 c.k, .int .i64 c.wn, .int .i64 c.th, .int .i64 c.fl, .int .i64 c.ac, .int .i64 c.la, .int .i64 c.og, .int .i64 c.st, .int .i64 c.fr, .bool c.sl, .slice sa c.xs.length sc]] w fun e w' => e = .returned (.bool (conB T nL c)) ∧ Below w.heap.size w w' := by
  have hli : (T.length : Int) ≤ 1048576 := by omega
  have hLi : (nL : Int) ≤ 1048576 := by omega
  have hmi : (c.xs.length : Int) ≤ 9223372036854775807 := by unfold maxLen at hm; omega
  obtain ⟨v, hv⟩ : ∃ v, v = (w.alloc (.cells #[.int .i64 now, .slice aT T.length cT, .slice aO nO cO, .slice aP nP cP, .slice aL nL cL, .slice aK nK cK, .int .i64 nx] 38)).alloc (.cells #[.int .i64 c.id, .int .i64 c.lf, .int .i64 c.pl, .int .i64 c.k, .int .i64 c.wn, .int .i64 c.th, .int .i64 c.fl, .int .i64 c.ac, .int .i64 c.la, .int .i64 c.og, .int .i64 c.st, .int .i64 c.fr, .bool c.sl, .slice sa c.xs.length sc] 66) := ⟨_, rfl⟩
  have nb : Below w.heap.size w v := by rw [hv]; go_grown
  have L0 : Lay v w.heap.size [.int .i64 now, .slice aT T.length cT, .slice aO nO cO, .slice aP nP cP, .slice aL nL cL, .slice aK nK cK, .int .i64 nx] := by rw [hv]; exact (lay_new [.int .i64 now, .slice aT T.length cT, .slice aO nO cO, .slice aP nP cP, .slice aL nL cL, .slice aK nK cK, .int .i64 nx] _ rfl).alloc _ _
  have L1 : Lay v (w.heap.size + 1) [.int .i64 c.id, .int .i64 c.lf, .int .i64 c.pl, .int .i64 c.k, .int .i64 c.wn, .int .i64 c.th, .int .i64 c.fl, .int .i64 c.ac, .int .i64 c.la, .int .i64 c.og, .int .i64 c.st, .int .i64 c.fr, .bool c.sl, .slice sa c.xs.length sc] := by rw [hv]; exact lay_new [.int .i64 c.id, .int .i64 c.lf, .int .i64 c.pl, .int .i64 c.k, .int .i64 c.wn, .int .i64 c.th, .int .i64 c.fl, .int .i64 c.ac, .int .i64 c.la, .int .i64 c.og, .int .i64 c.st, .int .i64 c.fr, .bool c.sl, .slice sa c.xs.length sc] _ (by simp)
  have r1 : v.cell? ⟨w.heap.size, 1, none⟩ = some (.slice aT T.length cT) := L0.cell 1 _ rfl
  have r4 : v.cell? ⟨w.heap.size, 4, none⟩ = some (.slice aL nL cL) := L0.cell 4 _ rfl
  obtain ⟨s0, s1, s2, s3, s4, s5, s6, s7, s8, s9, s10, s11, s12, s13⟩ := Lay.c14 (b := w.heap.size + 1) L1
  cases h1 : inQ 0 c.id 1000000
  · have HC : Hid (conB T nL c = false) := (show conB T nL c = _ by unfold conB; simp only [h1, Bool.true_and, Bool.false_and, Bool.and_false])
    go_enter Tryz.func68, Tryz.ntmps68
    go_upto_region 1 with (fail)
    rw [← hv]
    clear hv
    go_wp2_with (first | (go_at_call 25; refine (inQ_is h1 _).mono ?_; rintro e w3 ⟨rfl, e3⟩; replace e3 := e3.symm; subst e3; have g1 := True.intro))
    go_ret
    exact ⟨retC HC.out.symm, nb⟩
  cases h2 : inQ 0 c.lf ((T.length : Int) - 1)
  · have HC : Hid (conB T nL c = false) := (show conB T nL c = _ by unfold conB; simp only [h1, h2, Bool.true_and, Bool.false_and, Bool.and_false])
    go_enter Tryz.func68, Tryz.ntmps68
    go_upto_region 1 with (fail)
    rw [← hv]
    clear hv
    go_wp2_with (first | (go_at_call 25; have tk := g1; refine (inQ_is h2 _).mono ?_; rintro e w3 ⟨rfl, e3⟩; replace e3 := e3.symm; subst e3; have g2 := True.intro) | (go_at_call 25; refine (inQ_is h1 _).mono ?_; rintro e w3 ⟨rfl, e3⟩; replace e3 := e3.symm; subst e3; have g1 := True.intro))
    go_ret
    exact ⟨retC HC.out.symm, nb⟩
  cases h3 : leafB T c.lf
  · have HC : Hid (conB T nL c = false) := (show conB T nL c = _ by unfold conB; simp only [h1, h2, h3, Bool.true_and, Bool.false_and, Bool.and_false])
    go_enter Tryz.func68, Tryz.ntmps68
    go_upto_region 1 with (fail)
    rw [← hv]
    clear hv
    go_wp2_with (first | (go_at_call 27; refine (sLeaf_is cT h3 (hT.here nb) hl).mono ?_; rintro e w3 ⟨rfl, e3⟩; replace e3 := e3.symm; subst e3) | (go_at_call 25; have tk := g1; refine (inQ_is h2 _).mono ?_; rintro e w3 ⟨rfl, e3⟩; replace e3 := e3.symm; subst e3; have g2 := True.intro) | (go_at_call 25; refine (inQ_is h1 _).mono ?_; rintro e w3 ⟨rfl, e3⟩; replace e3 := e3.symm; subst e3; have g1 := True.intro))
    go_ret
    exact ⟨retC HC.out.symm, nb⟩
  cases h4 : inQ 0 c.pl ((nL : Int) - 1)
  · have HC : Hid (conB T nL c = false) := (show conB T nL c = _ by unfold conB; simp only [h1, h2, h3, h4, Bool.true_and, Bool.false_and, Bool.and_false])
    go_enter Tryz.func68, Tryz.ntmps68
    go_upto_region 1 with (fail)
    rw [← hv]
    clear hv
    go_wp2_with (first | (go_at_call 25; have tk := g2; refine (inQ_is h4 _).mono ?_; rintro e w3 ⟨rfl, e3⟩; replace e3 := e3.symm; subst e3) | (go_at_call 27; refine (sLeaf_is cT h3 (hT.here nb) hl).mono ?_; rintro e w3 ⟨rfl, e3⟩; replace e3 := e3.symm; subst e3) | (go_at_call 25; have tk := g1; refine (inQ_is h2 _).mono ?_; rintro e w3 ⟨rfl, e3⟩; replace e3 := e3.symm; subst e3; have g2 := True.intro) | (go_at_call 25; refine (inQ_is h1 _).mono ?_; rintro e w3 ⟨rfl, e3⟩; replace e3 := e3.symm; subst e3; have g1 := True.intro))
    go_ret
    exact ⟨retC HC.out.symm, nb⟩
  cases h5 : ccB c.k c.wn c.th c.fl c.ac c.la c.og c.st c.fr
  · have HC : Hid (conB T nL c = false) := (show conB T nL c = _ by unfold conB; simp only [h1, h2, h3, h4, h5, Bool.true_and, Bool.false_and, Bool.and_false])
    go_enter Tryz.func68, Tryz.ntmps68
    go_upto_region 1 with (fail)
    rw [← hv]
    clear hv
    go_wp2_with (first | (go_at_call 114; go_loud (refine (specCcOk_is h5 _ _).mono ?_; rintro e w3 ⟨rfl, e3⟩; have b3 : Below v.heap.size v w3 := (by rw [e3]; exact new_below _ _); clear e3; have bx := below_two nb b3; have M1 := L1.next b3; have m3 : w3.cell? ⟨w.heap.size + 1, 3, none⟩ = some (.int .i64 c.k) := M1.cell 3 _ rfl; have m13 : w3.cell? ⟨w.heap.size + 1, 13, none⟩ = some (.slice sa c.xs.length sc) := M1.cell 13 _ rfl)) | (go_at_call 25; have tk := g2; refine (inQ_is h4 _).mono ?_; rintro e w3 ⟨rfl, e3⟩; replace e3 := e3.symm; subst e3) | (go_at_call 27; refine (sLeaf_is cT h3 (hT.here nb) hl).mono ?_; rintro e w3 ⟨rfl, e3⟩; replace e3 := e3.symm; subst e3) | (go_at_call 25; have tk := g1; refine (inQ_is h2 _).mono ?_; rintro e w3 ⟨rfl, e3⟩; replace e3 := e3.symm; subst e3; have g2 := True.intro) | (go_at_call 25; refine (inQ_is h1 _).mono ?_; rintro e w3 ⟨rfl, e3⟩; replace e3 := e3.symm; subst e3; have g1 := True.intro))
    go_ret
    exact ⟨retC HC.out.symm, bx⟩
  by_cases hk : c.k = 3
  · have HC : Hid (conB T nL c = false) := (show conB T nL c = _ by unfold conB; simp only [h1, h2, h3, h4, h5, decide_eq_true hk, Bool.not_true, Bool.true_and, Bool.false_and, Bool.and_false])
    have hk' : (c.k == 3) = true := by simp [hk]
    clear hk
    go_enter Tryz.func68, Tryz.ntmps68
    go_upto_region 1 with (fail)
    rw [← hv]
    clear hv
    go_wp2_with (first | (go_at_call 114; go_loud (refine (specCcOk_is h5 _ _).mono ?_; rintro e w3 ⟨rfl, e3⟩; have b3 : Below v.heap.size v w3 := (by rw [e3]; exact new_below _ _); clear e3; have bx := below_two nb b3; have M1 := L1.next b3; have m3 : w3.cell? ⟨w.heap.size + 1, 3, none⟩ = some (.int .i64 c.k) := M1.cell 3 _ rfl; have m13 : w3.cell? ⟨w.heap.size + 1, 13, none⟩ = some (.slice sa c.xs.length sc) := M1.cell 13 _ rfl)) | (go_at_call 25; have tk := g2; refine (inQ_is h4 _).mono ?_; rintro e w3 ⟨rfl, e3⟩; replace e3 := e3.symm; subst e3) | (go_at_call 27; refine (sLeaf_is cT h3 (hT.here nb) hl).mono ?_; rintro e w3 ⟨rfl, e3⟩; replace e3 := e3.symm; subst e3) | (go_at_call 25; have tk := g1; refine (inQ_is h2 _).mono ?_; rintro e w3 ⟨rfl, e3⟩; replace e3 := e3.symm; subst e3; have g2 := True.intro) | (go_at_call 25; refine (inQ_is h1 _).mono ?_; rintro e w3 ⟨rfl, e3⟩; replace e3 := e3.symm; subst e3; have g1 := True.intro))
    go_ret
    exact ⟨retC HC.out.symm, bx⟩
  by_cases hq : (c.xs.length : Int) ≤ 100
  rotate_left
  · have HC : Hid (conB T nL c = false) := (show conB T nL c = _ by unfold conB; simp only [h1, h2, h3, h4, h5, decide_eq_false hk, Bool.not_false, decide_eq_false (show ¬ c.xs.length ≤ 100 by omega), Bool.true_and, Bool.false_and, Bool.and_false])
    have hq' : ¬ ((c.xs.length : Int) ≤ 100) := hq
    go_enter Tryz.func68, Tryz.ntmps68
    go_upto_region 1 with (fail)
    rw [← hv]
    clear hv
    go_wp2_with (first | (go_at_call 114; go_loud (refine (specCcOk_is h5 _ _).mono ?_; rintro e w3 ⟨rfl, e3⟩; have b3 : Below v.heap.size v w3 := (by rw [e3]; exact new_below _ _); clear e3; have bx := below_two nb b3; have M1 := L1.next b3; have m3 : w3.cell? ⟨w.heap.size + 1, 3, none⟩ = some (.int .i64 c.k) := M1.cell 3 _ rfl; have m13 : w3.cell? ⟨w.heap.size + 1, 13, none⟩ = some (.slice sa c.xs.length sc) := M1.cell 13 _ rfl)) | (go_at_call 25; have tk := g2; refine (inQ_is h4 _).mono ?_; rintro e w3 ⟨rfl, e3⟩; replace e3 := e3.symm; subst e3) | (go_at_call 27; refine (sLeaf_is cT h3 (hT.here nb) hl).mono ?_; rintro e w3 ⟨rfl, e3⟩; replace e3 := e3.symm; subst e3) | (go_at_call 25; have tk := g1; refine (inQ_is h2 _).mono ?_; rintro e w3 ⟨rfl, e3⟩; replace e3 := e3.symm; subst e3; have g2 := True.intro) | (go_at_call 25; refine (inQ_is h1 _).mono ?_; rintro e w3 ⟨rfl, e3⟩; replace e3 := e3.symm; subst e3; have g1 := True.intro))
    go_ret
    exact ⟨retC HC.out.symm, bx⟩
  have HC : Hid (conB T nL c = c.xs.all segB) := (show conB T nL c = _ by unfold conB; simp only [h1, h2, h3, h4, h5, decide_eq_false hk, Bool.not_false, decide_eq_true (show c.xs.length ≤ 100 by omega), Bool.true_and])
  have hk' : (c.k == 3) = false := by simp [hk]
  clear hk
  go_enter Tryz.func68, Tryz.ntmps68
  go_upto_region 1 with (fail)
  rw [← hv]
  clear hv
  go_wp2_with (first | (go_at_call 114; go_loud (refine (specCcOk_is h5 _ _).mono ?_; rintro e w3 ⟨rfl, e3⟩; have b3 : Below v.heap.size v w3 := (by rw [e3]; exact new_below _ _); clear e3; have bx := below_two nb b3; have M1 := L1.next b3; have m3 : w3.cell? ⟨w.heap.size + 1, 3, none⟩ = some (.int .i64 c.k) := M1.cell 3 _ rfl; have m13 : w3.cell? ⟨w.heap.size + 1, 13, none⟩ = some (.slice sa c.xs.length sc) := M1.cell 13 _ rfl)) | (go_at_call 25; have tk := g2; refine (inQ_is h4 _).mono ?_; rintro e w3 ⟨rfl, e3⟩; replace e3 := e3.symm; subst e3) | (go_at_call 27; refine (sLeaf_is cT h3 (hT.here nb) hl).mono ?_; rintro e w3 ⟨rfl, e3⟩; replace e3 := e3.symm; subst e3) | (go_at_call 25; have tk := g1; refine (inQ_is h2 _).mono ?_; rintro e w3 ⟨rfl, e3⟩; replace e3 := e3.symm; subst e3; have g2 := True.intro) | (go_at_call 25; refine (inQ_is h1 _).mono ?_; rintro e w3 ⟨rfl, e3⟩; replace e3 := e3.symm; subst e3; have g1 := True.intro))
  go_loop [5] (fun i => ∃ k : Nat, i = .int .i64 k ∧ k ≤ c.xs.length ∧ ∀ j (hj : j < c.xs.length), j < k → segB c.xs[j] = true) (fun i => c.xs.length - (intOf i).toNat)
  case atStart => exact ⟨0, rfl, by omega, fun j hj hk => by omega⟩
  case round =>
    obtain ⟨k, rfl, hk9, hf⟩ := hrel
    have HF : Hid (∀ j (hj : j < c.xs.length), j < k → segB c.xs[j] = true) := hf
    clear hf
    by_cases hlt : k < c.xs.length
    · obtain ⟨b, off, e, hbl, d0⟩ := hs.at bx k hlt
      subst e
      have hlt' : (k : Int) < (c.xs.length : Int) := by omega
      obtain ⟨x, hx⟩ : ∃ x, c.xs[k] = x := ⟨_, rfl⟩
      have HX : Hid (c.xs[k] = x) := hx
      rw [hx] at d0
      clear hx
      cases h8 : segB x
      · have HN : Hid (c.xs.all segB = false) := all_not hlt (by rw [HX.out]; exact h8)
        go_wp2_with (first | (go_at_call 130; refine (sSeg_is h8 _).mono ?_; rintro e w4 ⟨rfl, rfl⟩))
        go_ret
        exact ⟨retC (HC.out.trans HN.out).symm, bx⟩
      · have HS : Hid (∀ j (hj : j < c.xs.length), j < k + 1 → segB c.xs[j] = true) := all_step hlt HF.out (by rw [HX.out]; exact h8)
        go_wp2_with (first | (go_at_call 130; refine (sSeg_is h8 _).mono ?_; rintro e w4 ⟨rfl, rfl⟩))
        go_round
        case rel => exact ⟨k + 1, by go_num, by omega, HS.out⟩
        case measure => first | (simp [intOf]; done) | (simp [intOf]; omega)
    · have e : k = c.xs.length := by omega
      subst e
      have HN : Hid (c.xs.all segB = true) := all_done HF.out
      go_wp2
      go_ret
      exact ⟨retC (HC.out.trans HN.out).symm, bx⟩
/-- The connections to a place. -/
def atP (K : List Kn) (p : Int) : List Kn := K.filter (fun c => decide (c.pl = p))
def idsK (K : List Kn) : List Int := K.map Kn.id
/-- What is in flight together. -/
def flK : List Kn → Int
  | [] => 0
  | c :: r => c.fl + flK r
theorem flK_append (a b : List Kn) : flK (a ++ b) = flK a + flK b := by
  induction a with
  | nil => simp [flK]
  | cons c r ih => simp only [List.cons_append, flK, ih]; omega
theorem idsK_append (a b : List Kn) : idsK (a ++ b) = idsK a ++ idsK b := List.map_append
theorem idsK_length (a : List Kn) : (idsK a).length = a.length := List.length_map ..
theorem idsK_at {a : List Kn} {i : Nat} (h : i < a.length) (h' : i < (idsK a).length) : (idsK a)[i] = a[i].id := List.getElem_map ..
theorem atP_append (a b : List Kn) (p : Int) : atP (a ++ b) p = atP a p ++ atP b p := List.filter_append ..
theorem atP_le (K : List Kn) (p : Int) : (atP K p).length ≤ K.length := List.length_filter_le ..
theorem take_next {α : Type} (K : List α) {k : Nat} (h : k < K.length) : K.take (k + 1) = K.take k ++ [K[k]] := by rw [List.take_append_getElem h]
theorem atP_yes {K : List Kn} {k : Nat} (h : k < K.length) {p : Int} (e : K[k].pl = p) : atP (K.take (k + 1)) p = atP (K.take k) p ++ [K[k]] := by
  rw [take_next K h, atP_append]
  congr 1
  simp [atP, e]
theorem atP_no {K : List Kn} {k : Nat} (h : k < K.length) {p : Int} (e : ¬ K[k].pl = p) : atP (K.take (k + 1)) p = atP (K.take k) p := by
  rw [take_next K h, atP_append]
  simp [atP, e]
/-- An Engine is right. -/
structure EgOk (now nx : Int) (T O P : List Q4) (L : List F8) (K : List Kn) : Prop where
  lend : lendB T O P = true
  at' : atOf O = now
  nx' : inQ 0 nx 1000001 = true
  l0 : 1 ≤ L.length
  l1 : L.length ≤ 10
  k1 : K.length ≤ 40
  con : ∀ i (h : i < K.length), conB T L.length K[i] = true
  rise : ∀ i (h : i < K.length) (h' : i + 1 < K.length), K[i].id < K[i + 1].id
  pl : ∀ p (h : p < L.length), plB L[p].1 L[p].2.1 L[p].2.2 = true ∧ L[p].2.1 = flK (atP K p) ∧ L[p].2.2 = idsK (atP K p)
open Classical in
noncomputable def engB (now nx : Int) (T O P : List Q4) (L : List F8) (K : List Kn) : Bool := decide (EgOk now nx T O P L K)
section
variable {now nx : Int} {T O P : List Q4} {L : List F8} {K : List Kn}
open Classical in
theorem eg_yes (h : engB now nx T O P L K = true) : EgOk now nx T O P L K := by
  unfold engB at h
  exact of_decide_eq_true h
open Classical in
theorem eg_true (h : EgOk now nx T O P L K) : engB now nx T O P L K = true := by
  unfold engB
  exact decide_eq_true h
open Classical in
theorem eg_false (h : ¬ EgOk now nx T O P L K) : engB now nx T O P L K = false := by
  unfold engB
  exact decide_eq_false h
end
theorem kc_fl {c : Kn} {T : List Q4} {n : Nat} (h : conB T n c = true) : 0 ≤ c.fl ∧ c.fl ≤ 1000000000 := by
  unfold conB at h
  simp only [Bool.and_eq_true] at h
  have h5 := h.1.1.1.2
  exact (cc_num h5).2.2.2.1
theorem atOf_at {O : List Q4} (h : 0 < O.length) : atOf O = O[0].2.2.2 := by
  unfold atOf
  rw [List.getElem?_eq_getElem h]
theorem undrewE {w w' : World} (h : Below w.drew.heap.size w.drew w') : Below w.heap.size w w' := (Below.refl _ _).drew.trans h
theorem eng_read {w : World} {lo hi nT cT nO cO nP cP nL cL nK cK : Nat} {aT aO aP aL aK : Option Addr} {T O P : List Q4} {L : List F8} {K : List Kn} (h : Eng w lo hi (.slice aT nT cT) (.slice aO nO cO) (.slice aP nP cP) (.slice aL nL cL) (.slice aK nK cK) T O P L K) :
    Quad w.heap.size w aT T ∧ Quad w.heap.size w aO O ∧ Quad w.heap.size w aP P ∧ Fls w.heap.size w aL L ∧ Kls w.heap.size w aK K := by
  obtain ⟨_, _, _, _, _, _, e⟩ := h
  exact ⟨(e.l.t.quad).2, (e.l.o.quad).2, (e.l.p.quad).2, (e.p.fls).2, (e.k.kls).2⟩
theorem sumL_mem {L : List F8} {f : F8} (h : f ∈ L) : f.2.2.length ≤ sumL L L.length := by
  obtain ⟨i, hi, rfl⟩ := List.mem_iff_getElem.1 h
  have h1 := sumL_next hi
  have h2 := sumL_mono L (show i + 1 ≤ L.length by omega)
  omega
theorem sumK_mem {K : List Kn} {c : Kn} (h : c ∈ K) : c.xs.length ≤ sumK K K.length := by
  obtain ⟨i, hi, rfl⟩ := List.mem_iff_getElem.1 h
  have h1 := sumK_next hi
  have h2 := sumK_mono K (show i + 1 ≤ K.length by omega)
  omega
end Go.Proofs.YtkohlmloobojfaaGreat
