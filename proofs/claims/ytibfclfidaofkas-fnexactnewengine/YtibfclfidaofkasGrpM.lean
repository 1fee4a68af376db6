/- Lemmas on the way, of several texts: LendMath, SpecLend, SpecTold, SpecAsk. -/
import Derived.Test.YtibfclfidaofkasGrpH
import Derived.Test.YtibfclfidaofkasGrpK
import Derived.Test.YtibfclfidaofkasGrpL
import Derived.Test.YtibfclfidaofkasGrpG
import Derived.Test.YtibfclfidaofkasGrpE
import Derived.BigQuiet
import Derived.Deep.QuietTactic
namespace Go.Proofs.Ytibfclfidaofkas
open Go.ChangeShapes Go.WideShapes Go.ChangeAt Go.RowKit
set_option maxRecDepth 100000
set_option linter.unusedVariables false

def bokQ (b : Q4) : Bool := bokB b.1 b.2.1 b.2.2.1 b.2.2.2
def ownFull (at' : Int) (t : Q4) : Q4 := (t.2.1, t.2.2.2, 1000000000 * t.2.2.2, at')
def topFull (at' : Int) (t : Q4) : Q4 := (t.2.2.1, t.2.2.2, 1000000000 * t.2.2.2, at')
def newB_LendMath (T : List Q4) (at' : Int) : Bool := decide (treeCode T = 0) && timeB at'
def newT (T : List Q4) (at' : Int) : List Q4 := if newB_LendMath T at' = true then T else []
def newO (T : List Q4) (at' : Int) : List Q4 := if newB_LendMath T at' = true then T.map (ownFull at') else []
def newP (T : List Q4) (at' : Int) : List Q4 := if newB_LendMath T at' = true then T.map (topFull at') else []
/-- Class t's two buckets are right at a time. -/
def pairB (at' : Int) (a b t : Q4) : Bool := (((((((bokQ a && bokQ b) && decide (a.2.2.2 = at')) && decide (b.2.2.2 = at')) && decide (a.1 = t.2.1)) && decide (b.1 = t.2.2.1)) && decide (a.2.1 = t.2.2.2)) && decide (b.2.1 = t.2.2.2))
def atOf (O : List Q4) : Int := match O[0]? with | some b => b.2.2.2 | none => 0
def pairAt (T O P : List Q4) (k : Nat) : Bool := match T[k]?, O[k]?, P[k]? with | some t, some a, some b => pairB (atOf O) a b t | _, _, _ => false
def pairTo (T O P : List Q4) : Nat → Bool
  | 0 => true
  | k + 1 => pairTo T O P k && pairAt T O P k
def lendB (T O P : List Q4) : Bool := ((decide (treeCode T = 0) && decide (O.length = T.length)) && decide (P.length = T.length)) && pairTo T O P T.length
theorem pair_stays {T O P : List Q4} {k : Nat} (h : pairTo T O P k = false) : ∀ d, pairTo T O P (k + d) = false
  | 0 => h
  | d + 1 => by
    show (pairTo T O P (k + d) && _) = false
    rw [pair_stays h d]
    rfl
theorem pair_bad {T O P : List Q4} {k n : Nat} (h : pairAt T O P k = false) (hk : k < n) : pairTo T O P n = false := by
  have e : pairTo T O P (k + 1) = false := by
    show (pairTo T O P k && pairAt T O P k) = false
    rw [h, Bool.and_false]
  have s := pair_stays e (n - (k + 1))
  rw [show k + 1 + (n - (k + 1)) = n by omega] at s
  exact s
theorem pair_all {T O P : List Q4} : ∀ {n : Nat}, pairTo T O P n = true → ∀ k, k < n → pairAt T O P k = true
  | 0, _, k, hk => by cases hk
  | n + 1, h, k, hk => by
    have h' : (pairTo T O P n && pairAt T O P n) = true := h
    rw [Bool.and_eq_true] at h'
    by_cases e : k = n
    · subst e; exact h'.2
    · exact pair_all h'.1 k (by omega)
theorem pairAt_at {T O P : List Q4} {k : Nat} (h1 : k < T.length) (h2 : k < O.length) (h3 : k < P.length) : pairAt T O P k = pairB (atOf O) O[k] P[k] T[k] := by
  unfold pairAt
  rw [List.getElem?_eq_getElem h1, List.getElem?_eq_getElem h2, List.getElem?_eq_getElem h3]
/-- A Lend that is right. -/
structure IsLend (T O P : List Q4) : Prop where
  tree : IsTree T
  code : treeCode T = 0
  lo : O.length = T.length
  lp : P.length = T.length
  pair : ∀ k (h1 : k < T.length) (h2 : k < O.length) (h3 : k < P.length), pairB (atOf O) O[k] P[k] T[k] = true
theorem lend_of {T O P : List Q4} (h : lendB T O P = true) : IsLend T O P := by
  unfold lendB at h
  rw [Bool.and_eq_true, Bool.and_eq_true, Bool.and_eq_true] at h
  have hc := of_decide_eq_true h.1.1.1
  exact ⟨tree_of hc, hc, of_decide_eq_true h.1.1.2, of_decide_eq_true h.1.2, fun k h1 h2 h3 => by rw [← pairAt_at h1 h2 h3]; exact pair_all h.2 k h1⟩
structure PairOk (at' : Int) (a b t : Q4) : Prop where
  oka : bokQ a = true
  okb : bokQ b = true
  ta : a.2.2.2 = at'
  tb : b.2.2.2 = at'
  ra : a.1 = t.2.1
  rb : b.1 = t.2.2.1
  ua : a.2.1 = t.2.2.2
  ub : b.2.1 = t.2.2.2
theorem pair_ok {at' : Int} {a b t : Q4} (h : pairB at' a b t = true) : PairOk at' a b t := by
  unfold pairB at h
  simp only [Bool.and_eq_true, decide_eq_true_eq] at h
  exact ⟨h.1.1.1.1.1.1.1, h.1.1.1.1.1.1.2, h.1.1.1.1.1.2, h.1.1.1.1.2, h.1.1.1.2, h.1.1.2, h.1.2, h.2⟩
theorem pair_is {at' : Int} {a b t : Q4} (h : PairOk at' a b t) : pairB at' a b t = true := by
  unfold pairB
  simp only [Bool.and_eq_true, decide_eq_true_eq]
  exact ⟨⟨⟨⟨⟨⟨⟨h.oka, h.okb⟩, h.ta⟩, h.tb⟩, h.ra⟩, h.rb⟩, h.ua⟩, h.ub⟩
/-! Filling -/
def fillQ (now : Int) (b : Q4) : Q4 := (b.1, b.2.1, fillL b.1 b.2.1 b.2.2.1 b.2.2.2 now, fillT b.2.2.2 now)
def fills (now : Int) (O : List Q4) : List Q4 := O.map (fillQ now)
theorem fills_length (now : Int) (O : List Q4) : (fills now O).length = O.length := List.length_map ..
theorem fills_at {now : Int} {O : List Q4} {k : Nat} (h : k < O.length) (h' : k < (fills now O).length) : (fills now O)[k] = fillQ now O[k] := by simp [fills]
theorem fill_good {now : Int} {b : Q4} (h : bokQ b = true) (hn : timeB now = true) : bokQ (fillQ now b) = true := by
  have hb := bok_num h
  have hnn := tim_num hn
  have hf := fill_bounds (r := b.1) (u := b.2.1) (l := b.2.2.1) (t := b.2.2.2) (now := now) hb.2.1 hb.2.2.1 hb.1.1
  unfold bokQ bokB at h ⊢
  rw [Bool.and_eq_true, Bool.and_eq_true, Bool.and_eq_true] at h ⊢
  refine ⟨⟨h.1.1, ?_⟩, ?_⟩
  · simp only [fillQ]
    unfold lvlB
    rw [Bool.and_eq_true]
    exact ⟨decide_eq_true hf.1, decide_eq_true hf.2⟩
  · simp only [fillQ]
    unfold fillT
    split
    · exact h.2
    · exact hn
/-! Who lends -/
def levelOf (O : List Q4) (k : Int) : Int := match O[k.toNat]? with | some b => b.2.2.1 | none => 0
theorem levelOf_at {O : List Q4} {k : Nat} (h : k < O.length) : levelOf O (k : Int) = O[k].2.2.1 := by unfold levelOf; rw [Int.toNat_natCast, List.getElem?_eq_getElem h]
/-- The place on the path of who lends, the first j having been looked at; none: one of them has not so much in its Top. -/
def askTo (O P : List Q4) (n : Int) (path : List Int) : Nat → Option Int
  | 0 => some (-1)
  | j + 1 => match askTo O P n path j with
    | none => none
    | some who => match path[j]? with
      | none => some who
      | some c => if levelOf P c < 1000000000 * n then none else some (if who < 0 ∧ 1000000000 * n ≤ levelOf O c then (j : Int) else who)
def askOf (O P : List Q4) (n : Int) (path : List Int) : Int := match askTo O P n path path.length with | some who => who | none => -1
theorem ask_none {O P : List Q4} {n : Int} {path : List Int} {j : Nat} (h : askTo O P n path j = none) : ∀ d, askTo O P n path (j + d) = none
  | 0 => h
  | d + 1 => by
    show (match askTo O P n path (j + d) with | none => none | some who => _) = none
    rw [ask_none h d]
theorem ask_low {O P : List Q4} {n who : Int} {path : List Int} {j : Nat} (hj : j < path.length) (h : askTo O P n path j = some who) (hl : levelOf P path[j] < 1000000000 * n) : askOf O P n path = -1 := by
  have e : askTo O P n path (j + 1) = none := by
    show (match askTo O P n path j with | none => none | some who => _) = none
    rw [h, List.getElem?_eq_getElem hj]
    simp [hl]
  have s := ask_none e (path.length - (j + 1))
  rw [show j + 1 + (path.length - (j + 1)) = path.length by omega] at s
  unfold askOf
  rw [s]
theorem ask_next {O P : List Q4} {n who : Int} {path : List Int} {j : Nat} (hj : j < path.length) (h : askTo O P n path j = some who) (hl : ¬ levelOf P path[j] < 1000000000 * n) :
    askTo O P n path (j + 1) = some (if who < 0 ∧ 1000000000 * n ≤ levelOf O path[j] then (j : Int) else who) := by
  show (match askTo O P n path j with | none => none | some who => _) = _
  rw [h, List.getElem?_eq_getElem hj]
  simp only [if_neg hl]
theorem ask_range {O P : List Q4} {n : Int} {path : List Int} : ∀ {j : Nat} {who : Int}, askTo O P n path j = some who → who = -1 ∨ (0 ≤ who ∧ who < j)
  | 0, who, h => .inl (Option.some.inj h).symm
  | j + 1, who, h => by
    have h' : (match askTo O P n path j with | none => none | some who => match path[j]? with | none => some who | some c => if levelOf P c < 1000000000 * n then none else some (if who < 0 ∧ 1000000000 * n ≤ levelOf O c then (j : Int) else who)) = some who := h
    cases h1 : askTo O P n path j with
    | none => rw [h1] at h'; cases h'
    | some w0 =>
      rw [h1] at h'
      have ih := ask_range h1
      cases h2 : path[j]? with
      | none =>
        rw [h2] at h'
        have e : w0 = who := Option.some.inj h'
        omega
      | some c =>
        rw [h2] at h'
        simp only at h'
        split at h'
        · cases h'
        · have e := Option.some.inj h'
          split at e
          · omega
          · omega
theorem ask_bounds (O P : List Q4) (n : Int) (path : List Int) : askOf O P n path = -1 ∨ (0 ≤ askOf O P n path ∧ askOf O P n path < path.length) := by
  unfold askOf
  cases h : askTo O P n path path.length with
  | none => exact .inl rfl
  | some who => exact ask_range h
end Go.Proofs.Ytibfclfidaofkas
namespace Go.Proofs.Ytibfclfidaofkas
open Go.ChangeShapes Go.WideShapes Go.ChangeAt Go.RowKit
set_option maxRecDepth 100000
set_option linter.unusedVariables false
set_option linter.unusedSimpArgs false

theorem sBok_is {r u l t : Int} {f : Bool} (h : bokB r u l t = f) (w : World) : Calls Try.prog 55 #[.agg #[.int .i64 r, .int .i64 u, .int .i64 l, .int .i64 t]] w fun e w' => e = .returned (.bool f) ∧ Below w.heap.size w w' := by subst h; exact specBucketOk_any r u l t w
theorem specTree_is {w : World} {a : Option Addr} (cap : Nat) {ts : List Q4} {c : Int} (hc : treeCode ts = c) (h : Quad w.heap.size w a ts) :
    Calls Try.prog 54 #[.slice a ts.length cap] w fun e w' => e = .returned (.int .i64 c) ∧ Below w.heap.size w w' := by subst hc; exact specTree_any cap h
theorem lend_no1 {T O P : List Q4} (h : ¬ treeCode T = 0) : lendB T O P = false := by unfold lendB; rw [decide_eq_false h]; rfl
theorem lend_no2 {T O P : List Q4} (h : ¬ O.length = T.length) : lendB T O P = false := by unfold lendB; rw [decide_eq_false h, Bool.and_false]; rfl
theorem lend_no3 {T O P : List Q4} (h : ¬ P.length = T.length) : lendB T O P = false := by unfold lendB; rw [decide_eq_false h, Bool.and_false]; rfl
theorem lend_no4 {T O P : List Q4} {k : Nat} (h : pairAt T O P k = false) (hk : k < T.length) : lendB T O P = false := by unfold lendB; rw [pair_bad h hk, Bool.and_false]
theorem lend_yes {T O P : List Q4} (h1 : treeCode T = 0) (h2 : O.length = T.length) (h3 : P.length = T.length) (h4 : pairTo T O P T.length = true) : lendB T O P = true := by
  unfold lendB
  rw [decide_eq_true h1, decide_eq_true h2, decide_eq_true h3, h4]
  rfl
theorem pairB_parts {A ar au al at' br bu bl bt tp tr tc tu : Int} : pairB A (ar, au, al, at') (br, bu, bl, bt) (tp, tr, tc, tu) = (((((((bokB ar au al at' && bokB br bu bl bt) && decide (at' = A)) && decide (bt = A)) && decide (ar = tr)) && decide (br = tc)) && decide (au = tu)) && decide (bu = tu)) := rfl
set_option maxHeartbeats 16000000 in
theorem specLendOk_any {w : World} {aT aO aP : Option Addr} (cT cO cP : Nat) {T O P : List Q4} (hT : Quad w.heap.size w aT T) (hO : Quad w.heap.size w aO O) (hP : Quad w.heap.size w aP P) :
    Calls Try.prog 22 #[lendV aT T.length cT aO O.length cO aP P.length cP] w fun e w' => e = .returned (.bool (lendB T O P)) ∧ Below w.heap.size w w' := by
  by_cases hc : treeCode T = 0
  rotate_left
  · have HC : Hid (lendB T O P = false) := lend_no1 hc
    have nb : Below w.heap.size w (w.alloc (.cells #[.slice aT T.length cT, .slice aO O.length cO, .slice aP P.length cP] 35)) := new_below _ _
    have hc' : (treeCode T == 0) = false := by simp [hc]
    go_enter Try.func22, Try.ntmps22
    go_wp2_with (first | (go_at_call 54; refine (specTree_any cT (hT.here nb)).mono ?_; rintro e w2 ⟨rfl, hb2⟩))
    go_ret
    exact ⟨retQ HC.out.symm, below_step nb hb2⟩
  by_cases hlo : O.length = T.length
  rotate_left
  · have HC : Hid (lendB T O P = false) := lend_no2 hlo
    have nb : Below w.heap.size w (w.alloc (.cells #[.slice aT T.length cT, .slice aO O.length cO, .slice aP P.length cP] 35)) := new_below _ _
    have hl' : ((O.length : Int) == (T.length : Int)) = false := by rw [beq_eq_false_iff_ne]; omega
    have c1 : (w.alloc (.cells #[.slice aT T.length cT, .slice aO O.length cO, .slice aP P.length cP] 35)).cell? ⟨w.heap.size, 1, none⟩ = some (.slice aO O.length cO) := by go_simp
    have zb : w.heap.size < (w.alloc (.cells #[.slice aT T.length cT, .slice aO O.length cO, .slice aP P.length cP] 35)).heap.size := by simp
    go_enter Try.func22, Try.ntmps22
    go_wp2_with (first | (go_at_call 54; refine (specTree_is cT hc (hT.here nb)).mono ?_; rintro e w2 ⟨rfl, hb2⟩; have k1 := (below_cells hb2 _ _ zb).trans c1))
    go_ret
    exact ⟨retQ HC.out.symm, below_step nb hb2⟩
  by_cases hlp : P.length = T.length
  rotate_left
  · have HC : Hid (lendB T O P = false) := lend_no3 hlp
    have HLO : Hid (O.length = T.length) := hlo
    rw [hlo]
    have nb : Below w.heap.size w (w.alloc (.cells #[.slice aT T.length cT, .slice aO T.length cO, .slice aP P.length cP] 35)) := new_below _ _
    have hl' : ((P.length : Int) == (T.length : Int)) = false := by rw [beq_eq_false_iff_ne]; omega
    have c1 : (w.alloc (.cells #[.slice aT T.length cT, .slice aO T.length cO, .slice aP P.length cP] 35)).cell? ⟨w.heap.size, 1, none⟩ = some (.slice aO T.length cO) := by go_simp
    have c2 : (w.alloc (.cells #[.slice aT T.length cT, .slice aO T.length cO, .slice aP P.length cP] 35)).cell? ⟨w.heap.size, 2, none⟩ = some (.slice aP P.length cP) := by go_simp
    have zb : w.heap.size < (w.alloc (.cells #[.slice aT T.length cT, .slice aO T.length cO, .slice aP P.length cP] 35)).heap.size := by simp
    clear hlo
    go_enter Try.func22, Try.ntmps22
    go_wp2_with (first | (go_at_call 54; refine (specTree_is cT hc (hT.here nb)).mono ?_; rintro e w2 ⟨rfl, hb2⟩; have k1 := (below_cells hb2 _ _ zb).trans c1; have k2 := (below_cells hb2 _ _ zb).trans c2))
    go_ret
    exact ⟨retQ HC.out.symm, below_step nb hb2⟩
  have ht := tree_of hc
  have hl1 := ht.l0
  have hl30 := ht.l1
  clear ht
  have HLO : Hid (O.length = T.length) := hlo
  have HLP : Hid (P.length = T.length) := hlp
  rw [hlo, hlp]
  clear hlo hlp
  have h0O : 0 < O.length := by have := HLO.out; omega
  have hln : (T.length : Int) ≤ 30 := by omega
  have hl0 : (0 : Int) < (T.length : Int) := by omega
  obtain ⟨A, hA⟩ : ∃ A, O[0].2.2.2 = A := ⟨_, rfl⟩
  have HA : Hid (atOf O = A) := by
    show atOf O = A
    unfold atOf
    rw [List.getElem?_eq_getElem h0O, ← hA]
  obtain ⟨bo, oo, hao, hbo, _, _, _, qA⟩ := hO.at (Below.refl _ _) 0 h0O
  rw [hA, Nat.zero_mul, Nat.add_zero] at qA
  subst hao
  clear hA
  have nb : Below w.heap.size w (w.alloc (.cells #[.slice aT T.length cT, .slice (some ⟨bo, oo, none⟩) T.length cO, .slice aP T.length cP] 35)) := new_below _ _
  have c0 : (w.alloc (.cells #[.slice aT T.length cT, .slice (some ⟨bo, oo, none⟩) T.length cO, .slice aP T.length cP] 35)).cell? ⟨w.heap.size, 0, none⟩ = some (.slice aT T.length cT) := by go_simp
  have c1 : (w.alloc (.cells #[.slice aT T.length cT, .slice (some ⟨bo, oo, none⟩) T.length cO, .slice aP T.length cP] 35)).cell? ⟨w.heap.size, 1, none⟩ = some (.slice (some ⟨bo, oo, none⟩) T.length cO) := by go_simp
  have c2 : (w.alloc (.cells #[.slice aT T.length cT, .slice (some ⟨bo, oo, none⟩) T.length cO, .slice aP T.length cP] 35)).cell? ⟨w.heap.size, 2, none⟩ = some (.slice aP T.length cP) := by go_simp
  have zb : w.heap.size < (w.alloc (.cells #[.slice aT T.length cT, .slice (some ⟨bo, oo, none⟩) T.length cO, .slice aP T.length cP] 35)).heap.size := by simp
  go_enter Try.func22, Try.ntmps22
  go_upto_region 5 with (go_at_call 54; refine (specTree_is cT hc (hT.here nb)).mono ?_; rintro e w2 ⟨rfl, hb2⟩; have k0 := (below_cells hb2 _ _ zb).trans c0; have k1 := (below_cells hb2 _ _ zb).trans c1; have k2 := (below_cells hb2 _ _ zb).trans c2; have kA := ((below_step nb hb2).cell (p := ⟨bo, oo + 3, none⟩) hbo).trans qA)
  go_wp2
  clear kA
  have hb0 : Below w.heap.size w w2 := below_step nb hb2
  have zb2 : w.heap.size < w2.heap.size := Nat.lt_of_lt_of_le zb hb2.size
  clear c0 c1 c2 zb nb hb2
  go_loopw [5] (fun i wr => ∃ k : Nat, i = .int .i64 k ∧ k ≤ T.length ∧ Hid (pairTo T O P k = true) ∧ Below w2.heap.size w2 wr) (fun i _ => T.length - (intOf i).toNat)
  case atStart => exact ⟨0, rfl, by omega, rfl, Below.refl _ _⟩
  case round =>
    obtain ⟨k, rfl, hk, HF, hbr⟩ := hrel
    have q0 := (below_cells hbr _ _ zb2).trans k0
    have q1 := (below_cells hbr _ _ zb2).trans k1
    have q2 := (below_cells hbr _ _ zb2).trans k2
    clear k0 k1 k2
    have hbw : Below w.heap.size w wr := below_step hb0 hbr
    have zr := hbr.size
    have zr' : w.heap.size < wr.heap.size := by omega
    by_cases hlt : k < T.length
    · have hlt' : (k : Int) < (T.length : Int) := by omega
      have hko : k < O.length := by have := HLO.out; omega
      have hkp : k < P.length := by have := HLP.out; omega
      obtain ⟨_, _, e1, hb1, x0, x1, x2, x3⟩ := hO.at hbw k hko
      cases e1
      obtain ⟨bp, op, rfl, hb4, y0, y1, y2, y3⟩ := hP.at hbw k hkp
      obtain ⟨bt', ot, rfl, hb5, t0, t1, t2, t3⟩ := hT.at hbw k hlt
      have HPA := pairAt_at hlt hko hkp
      obtain ⟨xa, hxa⟩ : ∃ x, O[k] = x := ⟨_, rfl⟩
      obtain ⟨xb, hxb⟩ : ∃ x, P[k] = x := ⟨_, rfl⟩
      obtain ⟨xt, hxt⟩ : ∃ x, T[k] = x := ⟨_, rfl⟩
      rw [hxa, hxb, hxt, HA.out] at HPA
      rw [hxa] at x0 x1 x2 x3
      rw [hxb] at y0 y1 y2 y3
      rw [hxt] at t0 t1 t2 t3
      obtain ⟨ar, au, al, at'⟩ := xa
      obtain ⟨br, bu, bl, bt⟩ := xb
      obtain ⟨tp, tr, tc, tu⟩ := xt
      simp only at x0 x1 x2 x3 y0 y1 y2 y3 t0 t1 t2 t3
      clear hxa hxb hxt
      have HPA : Hid (pairAt T O P k = pairB A (ar, au, al, at') (br, bu, bl, bt) (tp, tr, tc, tu)) := HPA
      have hbq : Below w2.heap.size w2 (((wr.alloc (.cells #[.int .i64 ar, .int .i64 au, .int .i64 al, .int .i64 at'] 57)).alloc (.cells #[.int .i64 br, .int .i64 bu, .int .i64 bl, .int .i64 bt] 57)).alloc (.cells #[.int .i64 tp, .int .i64 tr, .int .i64 tc, .int .i64 tu] 81)) := by go_grown
      have hbq2 : Below w.heap.size w (((wr.alloc (.cells #[.int .i64 ar, .int .i64 au, .int .i64 al, .int .i64 at'] 57)).alloc (.cells #[.int .i64 br, .int .i64 bu, .int .i64 bl, .int .i64 bt] 57)).alloc (.cells #[.int .i64 tp, .int .i64 tr, .int .i64 tc, .int .i64 tu] 81)) := by go_grown
      have KC : Hid (Cells (((wr.alloc (.cells #[.int .i64 ar, .int .i64 au, .int .i64 al, .int .i64 at'] 57)).alloc (.cells #[.int .i64 br, .int .i64 bu, .int .i64 bl, .int .i64 bt] 57)).alloc (.cells #[.int .i64 tp, .int .i64 tr, .int .i64 tc, .int .i64 tu] 81)) [(wr.heap.size, 0, .int .i64 ar), (wr.heap.size, 1, .int .i64 au), (wr.heap.size, 2, .int .i64 al), (wr.heap.size, 3, .int .i64 at'), (wr.heap.size + 1, 0, .int .i64 br), (wr.heap.size + 1, 1, .int .i64 bu), (wr.heap.size + 1, 2, .int .i64 bl), (wr.heap.size + 1, 3, .int .i64 bt), (wr.heap.size + 2, 0, .int .i64 tp), (wr.heap.size + 2, 1, .int .i64 tr), (wr.heap.size + 2, 2, .int .i64 tc), (wr.heap.size + 2, 3, .int .i64 tu)]) := ⟨⟨by simp <;> omega, by go_simp⟩, ⟨by simp <;> omega, by go_simp⟩, ⟨by simp <;> omega, by go_simp⟩, ⟨by simp <;> omega, by go_simp⟩, ⟨by simp <;> omega, by go_simp⟩, ⟨by simp <;> omega, by go_simp⟩, ⟨by simp <;> omega, by go_simp⟩, ⟨by simp <;> omega, by go_simp⟩, ⟨by simp <;> omega, by go_simp⟩, ⟨by simp <;> omega, by go_simp⟩, ⟨by simp <;> omega, by go_simp⟩, ⟨by simp <;> omega, by go_simp⟩, trivial⟩
      have s1 : bo < wr.heap.size := by omega
      have s2 : bp < wr.heap.size := by omega
      have s3 : bt' < wr.heap.size := by omega
      have s4 : bt' < wr.heap.size + 1 := by omega
      have s5 : w.heap.size < wr.heap.size + 1 := by omega
      cases h1 : bokB ar au al at'
      · skip
        have HC : Hid (lendB T O P = false) := lend_no4 (k := k) (by rw [HPA.out, pairB_parts]; simp [h1]) hlt
        clear HPA
        go_upto_region 11 with (fail)
        go_wp2_with (first | (go_at_call 55; refine (sBok_is h1 _).mono ?_; rintro e w5 ⟨rfl, hb2⟩; have C2 : Hid (Cells w5 [(wr.heap.size, 0, .int .i64 ar), (wr.heap.size, 1, .int .i64 au), (wr.heap.size, 2, .int .i64 al), (wr.heap.size, 3, .int .i64 at'), (wr.heap.size + 1, 0, .int .i64 br), (wr.heap.size + 1, 1, .int .i64 bu), (wr.heap.size + 1, 2, .int .i64 bl), (wr.heap.size + 1, 3, .int .i64 bt), (wr.heap.size + 2, 0, .int .i64 tp), (wr.heap.size + 2, 1, .int .i64 tr), (wr.heap.size + 2, 2, .int .i64 tc), (wr.heap.size + 2, 3, .int .i64 tu)]) := KC.out.next hb2; have ⟨⟨_, k0⟩, ⟨_, k1⟩, ⟨_, k2⟩, ⟨_, k3⟩, ⟨_, k4⟩, ⟨_, k5⟩, ⟨_, k6⟩, ⟨_, k7⟩, ⟨_, k8⟩, ⟨_, k9⟩, ⟨_, k10⟩, ⟨_, k11⟩, _⟩ := C2.out; have hby := below_step hbq hb2; have hby2 := below_step hbq2 hb2; have m1 := h1))
        go_ret
        exact ⟨retQ HC.out.symm, hby2⟩
      · skip
        cases h2 : bokB br bu bl bt
        · skip
          have HC : Hid (lendB T O P = false) := lend_no4 (k := k) (by rw [HPA.out, pairB_parts]; simp [h1, h2]) hlt
          clear HPA
          go_upto_region 11 with (fail)
          go_wp2_with (first | (go_at_call 55; have g1 := m1; refine (sBok_is h2 _).mono ?_; rintro e w6 ⟨rfl, hb3⟩; have C3 := C2.out.next hb3; have ⟨⟨_, j0⟩, ⟨_, j1⟩, ⟨_, j2⟩, ⟨_, j3⟩, ⟨_, j4⟩, ⟨_, j5⟩, ⟨_, j6⟩, ⟨_, j7⟩, ⟨_, j8⟩, ⟨_, j9⟩, ⟨_, j10⟩, ⟨_, j11⟩, _⟩ := C3; clear C3; have hbz := below_step hby hb3; have hbz2 := below_step hby2 hb3) | (go_at_call 55; refine (sBok_is h1 _).mono ?_; rintro e w5 ⟨rfl, hb2⟩; have C2 : Hid (Cells w5 [(wr.heap.size, 0, .int .i64 ar), (wr.heap.size, 1, .int .i64 au), (wr.heap.size, 2, .int .i64 al), (wr.heap.size, 3, .int .i64 at'), (wr.heap.size + 1, 0, .int .i64 br), (wr.heap.size + 1, 1, .int .i64 bu), (wr.heap.size + 1, 2, .int .i64 bl), (wr.heap.size + 1, 3, .int .i64 bt), (wr.heap.size + 2, 0, .int .i64 tp), (wr.heap.size + 2, 1, .int .i64 tr), (wr.heap.size + 2, 2, .int .i64 tc), (wr.heap.size + 2, 3, .int .i64 tu)]) := KC.out.next hb2; have ⟨⟨_, k0⟩, ⟨_, k1⟩, ⟨_, k2⟩, ⟨_, k3⟩, ⟨_, k4⟩, ⟨_, k5⟩, ⟨_, k6⟩, ⟨_, k7⟩, ⟨_, k8⟩, ⟨_, k9⟩, ⟨_, k10⟩, ⟨_, k11⟩, _⟩ := C2.out; have hby := below_step hbq hb2; have hby2 := below_step hbq2 hb2; have m1 := h1))
          go_ret
          exact ⟨retQ HC.out.symm, hbz2⟩
        · skip
          by_cases h3 : at' = A
          rotate_left
          · skip
            have HC : Hid (lendB T O P = false) := lend_no4 (k := k) (by rw [HPA.out, pairB_parts]; simp [h1, h2, h3]) hlt
            have h3' : (at' == A) = false := by simp [h3]
            clear HPA
            go_upto_region 11 with (fail)
            go_wp2_with (first | (go_at_call 55; have g1 := m1; refine (sBok_is h2 _).mono ?_; rintro e w6 ⟨rfl, hb3⟩; have C3 := C2.out.next hb3; have ⟨⟨_, j0⟩, ⟨_, j1⟩, ⟨_, j2⟩, ⟨_, j3⟩, ⟨_, j4⟩, ⟨_, j5⟩, ⟨_, j6⟩, ⟨_, j7⟩, ⟨_, j8⟩, ⟨_, j9⟩, ⟨_, j10⟩, ⟨_, j11⟩, _⟩ := C3; clear C3; have hbz := below_step hby hb3; have hbz2 := below_step hby2 hb3) | (go_at_call 55; refine (sBok_is h1 _).mono ?_; rintro e w5 ⟨rfl, hb2⟩; have C2 : Hid (Cells w5 [(wr.heap.size, 0, .int .i64 ar), (wr.heap.size, 1, .int .i64 au), (wr.heap.size, 2, .int .i64 al), (wr.heap.size, 3, .int .i64 at'), (wr.heap.size + 1, 0, .int .i64 br), (wr.heap.size + 1, 1, .int .i64 bu), (wr.heap.size + 1, 2, .int .i64 bl), (wr.heap.size + 1, 3, .int .i64 bt), (wr.heap.size + 2, 0, .int .i64 tp), (wr.heap.size + 2, 1, .int .i64 tr), (wr.heap.size + 2, 2, .int .i64 tc), (wr.heap.size + 2, 3, .int .i64 tu)]) := KC.out.next hb2; have ⟨⟨_, k0⟩, ⟨_, k1⟩, ⟨_, k2⟩, ⟨_, k3⟩, ⟨_, k4⟩, ⟨_, k5⟩, ⟨_, k6⟩, ⟨_, k7⟩, ⟨_, k8⟩, ⟨_, k9⟩, ⟨_, k10⟩, ⟨_, k11⟩, _⟩ := C2.out; have hby := below_step hbq hb2; have hby2 := below_step hbq2 hb2; have m1 := h1))
            go_ret
            exact ⟨retQ HC.out.symm, hbz2⟩
          · subst at'
            by_cases h4 : bt = A
            rotate_left
            · skip
              have HC : Hid (lendB T O P = false) := lend_no4 (k := k) (by rw [HPA.out, pairB_parts]; simp [h1, h2, h4]) hlt
              have h4' : (bt == A) = false := by simp [h4]
              clear HPA
              go_upto_region 11 with (fail)
              go_wp2_with (first | (go_at_call 55; have g1 := m1; refine (sBok_is h2 _).mono ?_; rintro e w6 ⟨rfl, hb3⟩; have C3 := C2.out.next hb3; have ⟨⟨_, j0⟩, ⟨_, j1⟩, ⟨_, j2⟩, ⟨_, j3⟩, ⟨_, j4⟩, ⟨_, j5⟩, ⟨_, j6⟩, ⟨_, j7⟩, ⟨_, j8⟩, ⟨_, j9⟩, ⟨_, j10⟩, ⟨_, j11⟩, _⟩ := C3; clear C3; have hbz := below_step hby hb3; have hbz2 := below_step hby2 hb3) | (go_at_call 55; refine (sBok_is h1 _).mono ?_; rintro e w5 ⟨rfl, hb2⟩; have C2 : Hid (Cells w5 [(wr.heap.size, 0, .int .i64 ar), (wr.heap.size, 1, .int .i64 au), (wr.heap.size, 2, .int .i64 al), (wr.heap.size, 3, .int .i64 A), (wr.heap.size + 1, 0, .int .i64 br), (wr.heap.size + 1, 1, .int .i64 bu), (wr.heap.size + 1, 2, .int .i64 bl), (wr.heap.size + 1, 3, .int .i64 bt), (wr.heap.size + 2, 0, .int .i64 tp), (wr.heap.size + 2, 1, .int .i64 tr), (wr.heap.size + 2, 2, .int .i64 tc), (wr.heap.size + 2, 3, .int .i64 tu)]) := KC.out.next hb2; have ⟨⟨_, k0⟩, ⟨_, k1⟩, ⟨_, k2⟩, ⟨_, k3⟩, ⟨_, k4⟩, ⟨_, k5⟩, ⟨_, k6⟩, ⟨_, k7⟩, ⟨_, k8⟩, ⟨_, k9⟩, ⟨_, k10⟩, ⟨_, k11⟩, _⟩ := C2.out; have hby := below_step hbq hb2; have hby2 := below_step hbq2 hb2; have m1 := h1))
              go_ret
              exact ⟨retQ HC.out.symm, hbz2⟩
            · subst bt
              by_cases h5 : ar = tr
              rotate_left
              · skip
                have HC : Hid (lendB T O P = false) := lend_no4 (k := k) (by rw [HPA.out, pairB_parts]; simp [h1, h2, h5]) hlt
                have h5' : (ar == tr) = false := by simp [h5]
                clear HPA
                go_upto_region 11 with (fail)
                go_wp2_with (first | (go_at_call 55; have g1 := m1; refine (sBok_is h2 _).mono ?_; rintro e w6 ⟨rfl, hb3⟩; have C3 := C2.out.next hb3; have ⟨⟨_, j0⟩, ⟨_, j1⟩, ⟨_, j2⟩, ⟨_, j3⟩, ⟨_, j4⟩, ⟨_, j5⟩, ⟨_, j6⟩, ⟨_, j7⟩, ⟨_, j8⟩, ⟨_, j9⟩, ⟨_, j10⟩, ⟨_, j11⟩, _⟩ := C3; clear C3; have hbz := below_step hby hb3; have hbz2 := below_step hby2 hb3) | (go_at_call 55; refine (sBok_is h1 _).mono ?_; rintro e w5 ⟨rfl, hb2⟩; have C2 : Hid (Cells w5 [(wr.heap.size, 0, .int .i64 ar), (wr.heap.size, 1, .int .i64 au), (wr.heap.size, 2, .int .i64 al), (wr.heap.size, 3, .int .i64 A), (wr.heap.size + 1, 0, .int .i64 br), (wr.heap.size + 1, 1, .int .i64 bu), (wr.heap.size + 1, 2, .int .i64 bl), (wr.heap.size + 1, 3, .int .i64 A), (wr.heap.size + 2, 0, .int .i64 tp), (wr.heap.size + 2, 1, .int .i64 tr), (wr.heap.size + 2, 2, .int .i64 tc), (wr.heap.size + 2, 3, .int .i64 tu)]) := KC.out.next hb2; have ⟨⟨_, k0⟩, ⟨_, k1⟩, ⟨_, k2⟩, ⟨_, k3⟩, ⟨_, k4⟩, ⟨_, k5⟩, ⟨_, k6⟩, ⟨_, k7⟩, ⟨_, k8⟩, ⟨_, k9⟩, ⟨_, k10⟩, ⟨_, k11⟩, _⟩ := C2.out; have hby := below_step hbq hb2; have hby2 := below_step hbq2 hb2; have m1 := h1))
                go_ret
                exact ⟨retQ HC.out.symm, hbz2⟩
              · subst ar
                by_cases h6 : br = tc
                rotate_left
                · skip
                  have HC : Hid (lendB T O P = false) := lend_no4 (k := k) (by rw [HPA.out, pairB_parts]; simp [h1, h2, h6]) hlt
                  have h6' : (br == tc) = false := by simp [h6]
                  clear HPA
                  go_upto_region 11 with (fail)
                  go_wp2_with (first | (go_at_call 55; have g1 := m1; refine (sBok_is h2 _).mono ?_; rintro e w6 ⟨rfl, hb3⟩; have C3 := C2.out.next hb3; have ⟨⟨_, j0⟩, ⟨_, j1⟩, ⟨_, j2⟩, ⟨_, j3⟩, ⟨_, j4⟩, ⟨_, j5⟩, ⟨_, j6⟩, ⟨_, j7⟩, ⟨_, j8⟩, ⟨_, j9⟩, ⟨_, j10⟩, ⟨_, j11⟩, _⟩ := C3; clear C3; have hbz := below_step hby hb3; have hbz2 := below_step hby2 hb3) | (go_at_call 55; refine (sBok_is h1 _).mono ?_; rintro e w5 ⟨rfl, hb2⟩; have C2 : Hid (Cells w5 [(wr.heap.size, 0, .int .i64 tr), (wr.heap.size, 1, .int .i64 au), (wr.heap.size, 2, .int .i64 al), (wr.heap.size, 3, .int .i64 A), (wr.heap.size + 1, 0, .int .i64 br), (wr.heap.size + 1, 1, .int .i64 bu), (wr.heap.size + 1, 2, .int .i64 bl), (wr.heap.size + 1, 3, .int .i64 A), (wr.heap.size + 2, 0, .int .i64 tp), (wr.heap.size + 2, 1, .int .i64 tr), (wr.heap.size + 2, 2, .int .i64 tc), (wr.heap.size + 2, 3, .int .i64 tu)]) := KC.out.next hb2; have ⟨⟨_, k0⟩, ⟨_, k1⟩, ⟨_, k2⟩, ⟨_, k3⟩, ⟨_, k4⟩, ⟨_, k5⟩, ⟨_, k6⟩, ⟨_, k7⟩, ⟨_, k8⟩, ⟨_, k9⟩, ⟨_, k10⟩, ⟨_, k11⟩, _⟩ := C2.out; have hby := below_step hbq hb2; have hby2 := below_step hbq2 hb2; have m1 := h1))
                  go_ret
                  exact ⟨retQ HC.out.symm, hbz2⟩
                · subst br
                  by_cases h7 : au = tu
                  rotate_left
                  · skip
                    have HC : Hid (lendB T O P = false) := lend_no4 (k := k) (by rw [HPA.out, pairB_parts]; simp [h1, h2, h7]) hlt
                    have h7' : (au == tu) = false := by simp [h7]
                    clear HPA
                    go_upto_region 11 with (fail)
                    go_wp2_with (first | (go_at_call 55; have g1 := m1; refine (sBok_is h2 _).mono ?_; rintro e w6 ⟨rfl, hb3⟩; have C3 := C2.out.next hb3; have ⟨⟨_, j0⟩, ⟨_, j1⟩, ⟨_, j2⟩, ⟨_, j3⟩, ⟨_, j4⟩, ⟨_, j5⟩, ⟨_, j6⟩, ⟨_, j7⟩, ⟨_, j8⟩, ⟨_, j9⟩, ⟨_, j10⟩, ⟨_, j11⟩, _⟩ := C3; clear C3; have hbz := below_step hby hb3; have hbz2 := below_step hby2 hb3) | (go_at_call 55; refine (sBok_is h1 _).mono ?_; rintro e w5 ⟨rfl, hb2⟩; have C2 : Hid (Cells w5 [(wr.heap.size, 0, .int .i64 tr), (wr.heap.size, 1, .int .i64 au), (wr.heap.size, 2, .int .i64 al), (wr.heap.size, 3, .int .i64 A), (wr.heap.size + 1, 0, .int .i64 tc), (wr.heap.size + 1, 1, .int .i64 bu), (wr.heap.size + 1, 2, .int .i64 bl), (wr.heap.size + 1, 3, .int .i64 A), (wr.heap.size + 2, 0, .int .i64 tp), (wr.heap.size + 2, 1, .int .i64 tr), (wr.heap.size + 2, 2, .int .i64 tc), (wr.heap.size + 2, 3, .int .i64 tu)]) := KC.out.next hb2; have ⟨⟨_, k0⟩, ⟨_, k1⟩, ⟨_, k2⟩, ⟨_, k3⟩, ⟨_, k4⟩, ⟨_, k5⟩, ⟨_, k6⟩, ⟨_, k7⟩, ⟨_, k8⟩, ⟨_, k9⟩, ⟨_, k10⟩, ⟨_, k11⟩, _⟩ := C2.out; have hby := below_step hbq hb2; have hby2 := below_step hbq2 hb2; have m1 := h1))
                    go_ret
                    exact ⟨retQ HC.out.symm, hbz2⟩
                  · subst au
                    by_cases h8 : bu = tu
                    rotate_left
                    · skip
                      have HC : Hid (lendB T O P = false) := lend_no4 (k := k) (by rw [HPA.out, pairB_parts]; simp [h1, h2, h8]) hlt
                      have h8' : (bu == tu) = false := by simp [h8]
                      clear HPA
                      go_upto_region 11 with (fail)
                      go_wp2_with (first | (go_at_call 55; have g1 := m1; refine (sBok_is h2 _).mono ?_; rintro e w6 ⟨rfl, hb3⟩; have C3 := C2.out.next hb3; have ⟨⟨_, j0⟩, ⟨_, j1⟩, ⟨_, j2⟩, ⟨_, j3⟩, ⟨_, j4⟩, ⟨_, j5⟩, ⟨_, j6⟩, ⟨_, j7⟩, ⟨_, j8⟩, ⟨_, j9⟩, ⟨_, j10⟩, ⟨_, j11⟩, _⟩ := C3; clear C3; have hbz := below_step hby hb3; have hbz2 := below_step hby2 hb3) | (go_at_call 55; refine (sBok_is h1 _).mono ?_; rintro e w5 ⟨rfl, hb2⟩; have C2 : Hid (Cells w5 [(wr.heap.size, 0, .int .i64 tr), (wr.heap.size, 1, .int .i64 tu), (wr.heap.size, 2, .int .i64 al), (wr.heap.size, 3, .int .i64 A), (wr.heap.size + 1, 0, .int .i64 tc), (wr.heap.size + 1, 1, .int .i64 bu), (wr.heap.size + 1, 2, .int .i64 bl), (wr.heap.size + 1, 3, .int .i64 A), (wr.heap.size + 2, 0, .int .i64 tp), (wr.heap.size + 2, 1, .int .i64 tr), (wr.heap.size + 2, 2, .int .i64 tc), (wr.heap.size + 2, 3, .int .i64 tu)]) := KC.out.next hb2; have ⟨⟨_, k0⟩, ⟨_, k1⟩, ⟨_, k2⟩, ⟨_, k3⟩, ⟨_, k4⟩, ⟨_, k5⟩, ⟨_, k6⟩, ⟨_, k7⟩, ⟨_, k8⟩, ⟨_, k9⟩, ⟨_, k10⟩, ⟨_, k11⟩, _⟩ := C2.out; have hby := below_step hbq hb2; have hby2 := below_step hbq2 hb2; have m1 := h1))
                      go_ret
                      exact ⟨retQ HC.out.symm, hbz2⟩
                    · subst bu
                      have HPB : Hid (pairTo T O P (k + 1) = true) := by
                        show (pairTo T O P k && pairAt T O P k) = true
                        rw [HF.out, HPA.out, pairB_parts]
                        simp [h1, h2]
                      clear HPA
                      go_upto_region 11 with (fail)
                      go_wp2_with (first | (go_at_call 55; have g1 := m1; refine (sBok_is h2 _).mono ?_; rintro e w6 ⟨rfl, hb3⟩; have C3 := C2.out.next hb3; have ⟨⟨_, j0⟩, ⟨_, j1⟩, ⟨_, j2⟩, ⟨_, j3⟩, ⟨_, j4⟩, ⟨_, j5⟩, ⟨_, j6⟩, ⟨_, j7⟩, ⟨_, j8⟩, ⟨_, j9⟩, ⟨_, j10⟩, ⟨_, j11⟩, _⟩ := C3; clear C3; have hbz := below_step hby hb3; have hbz2 := below_step hby2 hb3) | (go_at_call 55; refine (sBok_is h1 _).mono ?_; rintro e w5 ⟨rfl, hb2⟩; have C2 : Hid (Cells w5 [(wr.heap.size, 0, .int .i64 tr), (wr.heap.size, 1, .int .i64 tu), (wr.heap.size, 2, .int .i64 al), (wr.heap.size, 3, .int .i64 A), (wr.heap.size + 1, 0, .int .i64 tc), (wr.heap.size + 1, 1, .int .i64 tu), (wr.heap.size + 1, 2, .int .i64 bl), (wr.heap.size + 1, 3, .int .i64 A), (wr.heap.size + 2, 0, .int .i64 tp), (wr.heap.size + 2, 1, .int .i64 tr), (wr.heap.size + 2, 2, .int .i64 tc), (wr.heap.size + 2, 3, .int .i64 tu)]) := KC.out.next hb2; have ⟨⟨_, k0⟩, ⟨_, k1⟩, ⟨_, k2⟩, ⟨_, k3⟩, ⟨_, k4⟩, ⟨_, k5⟩, ⟨_, k6⟩, ⟨_, k7⟩, ⟨_, k8⟩, ⟨_, k9⟩, ⟨_, k10⟩, ⟨_, k11⟩, _⟩ := C2.out; have hby := below_step hbq hb2; have hby2 := below_step hbq2 hb2; have m1 := h1))
                      go_roundw
                      case rel => exact ⟨k + 1, by go_num, by omega, HPB, hbz⟩
                      case measure => first | (simp [intOf]; done) | (simp [intOf]; omega)
    · have e : k = T.length := by omega
      subst e
      have HC : Hid (lendB T O P = true) := lend_yes hc HLO.out HLP.out HF.out
      go_wp2
      go_ret
      exact ⟨retQ HC.out.symm, hbw⟩
theorem specLendOk_is {w : World} {aT aO aP : Option Addr} (cT cO cP : Nat) {T O P : List Q4} {f : Bool} (hf : lendB T O P = f) (hT : Quad w.heap.size w aT T) (hO : Quad w.heap.size w aO O) (hP : Quad w.heap.size w aP P) :
    Calls Try.prog 22 #[lendV aT T.length cT aO O.length cO aP P.length cP] w fun e w' => e = .returned (.bool f) ∧ Below w.heap.size w w' := by subst hf; exact specLendOk_any cT cO cP hT hO hP
end Go.Proofs.Ytibfclfidaofkas
namespace Go.Proofs.Ytibfclfidaofkas
open Go.ChangeShapes Go.WideShapes Go.ChangeAt Go.RowKit
set_option maxRecDepth 100000
set_option linter.unusedVariables false
set_option linter.unusedSimpArgs false

def toldB (T O P : List Q4) (leaf now n : Int) : Bool := ((((lendB T O P && (decide (0 ≤ leaf) && decide (leaf ≤ (T.length : Int) - 1))) && leafB T leaf) && timeB now) && decide (atOf O ≤ now)) && segB n
theorem sTime_is {x : Int} {f : Bool} (h : timeB x = f) (w : World) : Calls Try.prog 21 #[.int .i64 x] w fun e w' => e = .returned (.bool f) ∧ w' = w := by subst h; exact time_any x w
theorem sSeg_is {x : Int} {f : Bool} (h : segB x = f) (w : World) : Calls Try.prog 58 #[.int .i64 x] w fun e w' => e = .returned (.bool f) ∧ w' = w := by subst h; exact seg_any x w
theorem sLeaf_is {w : World} {a : Option Addr} (cap : Nat) {ts : List Q4} {i : Int} {f : Bool} (hf : leafB ts i = f) (h : Quad w.heap.size w a ts) (hl : ts.length ≤ 1048576) :
    Calls Try.prog 56 #[.slice a ts.length cap, .int .i64 i] w fun e w' => e = .returned (.bool f) ∧ w' = w := by subst hf; exact specLeaf_any cap i h hl
end Go.Proofs.Ytibfclfidaofkas
namespace Go.Proofs.Ytibfclfidaofkas
open Go.ChangeShapes Go.WideShapes Go.ChangeAt Go.RowKit
set_option maxRecDepth 100000
set_option linter.unusedVariables false
set_option linter.unusedSimpArgs false

end Go.Proofs.Ytibfclfidaofkas
