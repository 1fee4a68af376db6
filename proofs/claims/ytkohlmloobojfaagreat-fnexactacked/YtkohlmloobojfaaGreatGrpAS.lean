/- Lemmas on the way, of several texts: SpecPath6, TreeMath, SpecTree, SpecTree2. -/
import Derived.Test.YtkohlmloobojfaaGreatGrpAR
import Derived.Test.YtkohlmloobojfaaGreatGrpAG
import Derived.Laws.AppendOwnNone
import Derived.Test.YtkohlmloobojfaaGreatGrpAF
import Derived.BigQuiet
import Derived.Deep.QuietTactic
namespace Go.Proofs.YtkohlmloobojfaaGreat
open Go.ChangeShapes Go.WideShapes Go.ChangeAt Go.RowKit
set_option maxRecDepth 100000
set_option linter.unusedVariables false
set_option linter.unusedSimpArgs false
/-- Every parent stands ahead. -/
def PWell (ts : List Q4) : Prop := ∀ k (hk : k < ts.length), -1 ≤ ts[k].1 ∧ ts[k].1 < k
def burB (x : Int) : Bool := decide (1500 ≤ x) && decide (x ≤ 1000000000)
def rateOf (ts : List Q4) (k : Nat) : Int := match ts[k]? with | some t => t.2.1 | none => 0
def ceilOf (ts : List Q4) (k : Nat) : Int := match ts[k]? with | some t => t.2.2.1 | none => 0
def parB (k : Nat) (p : Int) : Bool := if k = 0 then decide (p = -1) else decide (0 ≤ p) && decide (p ≤ (k : Int) - 1)
def ceilUp (ts : List Q4) (k : Nat) (p : Int) : Int := if k = 0 then 1000000000000 else ceilOf ts p.toNat
def clsB (hi : Int) (t : Q4) : Bool := (((rateB t.2.1 && rateB t.2.2.1) && decide (t.2.1 ≤ t.2.2.1)) && decide (t.2.2.1 ≤ hi)) && burB t.2.2.2
def codeT (ts : List Q4) (k : Nat) (t : Q4) : Int := if parB k t.1 = true then (if clsB (ceilUp ts k t.1) t = true then 0 else 3) else 2
def codeAt (ts : List Q4) (k : Nat) : Int := match ts[k]? with | some t => codeT ts k t | none => 0
def firstC (ts : List Q4) : Nat → Int
  | 0 => 0
  | k + 1 => if firstC ts k = 0 then codeAt ts k else firstC ts k
def kidAt (ts : List Q4) (i : Int) (k : Nat) : Int := match ts[k]? with | some t => if t.1 = i then t.2.1 else 0 | none => 0
def kidTo (ts : List Q4) (i : Int) : Nat → Int
  | 0 => 0
  | k + 1 => kidTo ts i k + kidAt ts i k
def overTo (ts : List Q4) : Nat → Bool
  | 0 => false
  | k + 1 => overTo ts k || decide (rateOf ts k < kidTo ts (k : Int) ts.length)
def lenB (ts : List Q4) : Bool := decide (1 ≤ ts.length) && decide (ts.length ≤ 30)
def treeCode (ts : List Q4) : Int := if lenB ts = true then (if firstC ts ts.length = 0 then (if overTo ts ts.length = true then 4 else 0) else firstC ts ts.length) else 1
theorem codeAt_at {ts : List Q4} {k : Nat} (hk : k < ts.length) : codeAt ts k = codeT ts k ts[k] := by unfold codeAt; rw [List.getElem?_eq_getElem hk]
theorem rateOf_at {ts : List Q4} {k : Nat} (hk : k < ts.length) : rateOf ts k = ts[k].2.1 := by unfold rateOf; rw [List.getElem?_eq_getElem hk]
theorem ceilOf_at {ts : List Q4} {k : Nat} (hk : k < ts.length) : ceilOf ts k = ts[k].2.2.1 := by unfold ceilOf; rw [List.getElem?_eq_getElem hk]
theorem kidAt_yes {ts : List Q4} {i : Int} {k : Nat} (hk : k < ts.length) (h : ts[k].1 = i) : kidAt ts i k = ts[k].2.1 := by unfold kidAt; rw [List.getElem?_eq_getElem hk]; simp [h]
theorem kidAt_no {ts : List Q4} {i : Int} {k : Nat} (hk : k < ts.length) (h : ts[k].1 ≠ i) : kidAt ts i k = 0 := by unfold kidAt; rw [List.getElem?_eq_getElem hk]; simp [h]
theorem first_stays {ts : List Q4} {k : Nat} (h : firstC ts k ≠ 0) : ∀ d, firstC ts (k + d) = firstC ts k
  | 0 => rfl
  | d + 1 => by
    show (if firstC ts (k + d) = 0 then _ else firstC ts (k + d)) = _
    rw [first_stays h d, if_neg h]
theorem first_next {ts : List Q4} {k : Nat} (h : firstC ts k = 0) : firstC ts (k + 1) = codeAt ts k := if_pos h
theorem first_bad {ts : List Q4} {k : Nat} (hk : k < ts.length) (h : firstC ts k = 0) (hc : codeT ts k ts[k] ≠ 0) : firstC ts ts.length = codeT ts k ts[k] := by
 have e : firstC ts (k + 1) = codeT ts k ts[k] := by rw [first_next h, codeAt_at hk]
 have s := first_stays (ts := ts) (k := k + 1) (by rw [e]; exact hc) (ts.length - (k + 1))
 rw [show k + 1 + (ts.length - (k + 1)) = ts.length by omega] at s
 rw [s, e]
theorem code_bad {ts : List Q4} {k : Nat} (hl : lenB ts = true) (hk : k < ts.length) (h : firstC ts k = 0) (hc : codeT ts k ts[k] ≠ 0) : treeCode ts = codeT ts k ts[k] := by
 have e := first_bad hk h hc
 unfold treeCode
 rw [if_pos hl, if_neg (by rw [e]; exact hc), e]
theorem code_len {ts : List Q4} (hl : lenB ts = false) : treeCode ts = 1 := by unfold treeCode; rw [hl]; rfl
theorem code_par {ts : List Q4} {k : Nat} {t : Q4} (h : parB k t.1 = false) : codeT ts k t = 2 := by unfold codeT; rw [h]; rfl
theorem code_cls {ts : List Q4} {k : Nat} {t : Q4} (h : parB k t.1 = true) (h2 : clsB (ceilUp ts k t.1) t = false) : codeT ts k t = 3 := by unfold codeT; rw [h, h2]; rfl
theorem code_ok {ts : List Q4} {k : Nat} {t : Q4} (h : parB k t.1 = true) (h2 : clsB (ceilUp ts k t.1) t = true) : codeT ts k t = 0 := by unfold codeT; rw [h, h2]; rfl
theorem codeT_zero {ts : List Q4} {k : Nat} {t : Q4} (h : codeT ts k t = 0) : parB k t.1 = true ∧ clsB (ceilUp ts k t.1) t = true := by
 unfold codeT at h
 by_cases h1 : parB k t.1 = true
 · rw [if_pos h1] at h
   by_cases h2 : clsB (ceilUp ts k t.1) t = true
   · exact ⟨h1, h2⟩
   · rw [if_neg h2] at h; cases h
 · rw [if_neg h1] at h; cases h
theorem first_all {ts : List Q4} : ∀ {n : Nat}, firstC ts n = 0 → ∀ k, k < n → codeAt ts k = 0
  | 0, _, k, hk => by cases hk
  | n + 1, h, k, hk => by
    have h0 : firstC ts n = 0 := by
      by_cases e : firstC ts n = 0
      · exact e
      · have : firstC ts (n + 1) = firstC ts n := if_neg e
        rw [this] at h; exact h
    rw [first_next h0] at h
    by_cases e : k = n
    · subst e; exact h
    · exact first_all h0 k (by omega)
/-- What a list of classes is of which none is faulty by itself. -/
structure Sound (ts : List Q4) : Prop where
 par : ∀ k (hk : k < ts.length), parB k ts[k].1 = true
 cls : ∀ k (hk : k < ts.length), clsB (ceilUp ts k ts[k].1) ts[k] = true
theorem sound_of {ts : List Q4} (h : firstC ts ts.length = 0) : Sound ts :=
 ⟨fun k hk => (codeT_zero (by rw [← codeAt_at hk]; exact first_all h k hk)).1, fun k hk => (codeT_zero (by rw [← codeAt_at hk]; exact first_all h k hk)).2⟩
theorem par_num {k : Nat} {p : Int} (h : parB k p = true) : -1 ≤ p ∧ p < k := by
 unfold parB at h
 by_cases e : k = 0
 · rw [if_pos e] at h
   have := of_decide_eq_true h
   omega
 · rw [if_neg e, Bool.and_eq_true] at h
   have h1 := of_decide_eq_true h.1
   have h2 := of_decide_eq_true h.2
   omega
theorem rate_numT {x : Int} (h : rateB x = true) : 0 ≤ x ∧ x ≤ 1000000000000 := by simpa [rateB] using h
theorem cls_rate {hi : Int} {t : Q4} (h : clsB hi t = true) : 0 ≤ t.2.1 ∧ t.2.1 ≤ 1000000000000 := by
 unfold clsB at h
 rw [Bool.and_eq_true, Bool.and_eq_true, Bool.and_eq_true, Bool.and_eq_true] at h
 exact rate_numT h.1.1.1.1
theorem Sound.well {ts : List Q4} (h : Sound ts) : PWell ts := fun k hk => par_num (h.par k hk)
theorem Sound.rate {ts : List Q4} (h : Sound ts) (k : Nat) (hk : k < ts.length) : 0 ≤ ts[k].2.1 ∧ ts[k].2.1 ≤ 1000000000000 := cls_rate (h.cls k hk)
theorem Sound.kid {ts : List Q4} (h : Sound ts) (i : Int) (k : Nat) : 0 ≤ kidAt ts i k ∧ kidAt ts i k ≤ 1000000000000 := by
 by_cases hk : k < ts.length
 · by_cases e : ts[k].1 = i
   · rw [kidAt_yes hk e]; exact h.rate k hk
   · rw [kidAt_no hk e]; omega
 · unfold kidAt
   rw [List.getElem?_eq_none (by omega)]
   simp
theorem Sound.kids {ts : List Q4} (h : Sound ts) (i : Int) : ∀ k, 0 ≤ kidTo ts i k ∧ kidTo ts i k ≤ 1000000000000 * (k : Int)
 | 0 => by simp [kidTo]
 | k + 1 => by
   have h1 := h.kids i k
   have h2 := h.kid i k
   show 0 ≤ kidTo ts i k + kidAt ts i k ∧ kidTo ts i k + kidAt ts i k ≤ 1000000000000 * ((k + 1 : Nat) : Int)
   omega
/-- Nobody up to i has i for a parent. -/
theorem Sound.none {ts : List Q4} (h : Sound ts) (i : Nat) : ∀ k, k ≤ i + 1 → kidTo ts (i : Int) k = 0
  | 0, _ => rfl
  | k + 1, hk => by
    show kidTo ts (i : Int) k + kidAt ts (i : Int) k = 0
    rw [h.none i k (by omega)]
    by_cases hl : k < ts.length
    · have := (h.well k hl).2
      rw [kidAt_no hl (by omega)]
      rfl
    · unfold kidAt
      rw [List.getElem?_eq_none (by omega)]
      rfl
theorem over_stays {ts : List Q4} {k : Nat} (h : overTo ts k = true) : ∀ d, overTo ts (k + d) = true
  | 0 => h
  | d + 1 => by
    show (overTo ts (k + d) || _) = true
    rw [over_stays h d]
    rfl
theorem over_at {ts : List Q4} {k : Nat} (hk : k < ts.length) (h : rateOf ts k < kidTo ts (k : Int) ts.length) : overTo ts ts.length = true := by
 have e : overTo ts (k + 1) = true := by
   show (overTo ts k || decide _) = true
   rw [decide_eq_true h, Bool.or_true]
 have s := over_stays e (ts.length - (k + 1))
 rw [show k + 1 + (ts.length - (k + 1)) = ts.length by omega] at s
 exact s
theorem over_next {ts : List Q4} {k : Nat} (h0 : overTo ts k = false) (h : ¬ rateOf ts k < kidTo ts (k : Int) ts.length) : overTo ts (k + 1) = false := by
 show (overTo ts k || decide _) = false
 rw [h0, decide_eq_false h]
 rfl
theorem over_all {ts : List Q4} : ∀ {n : Nat}, overTo ts n = false → ∀ k, k < n → kidTo ts (k : Int) ts.length ≤ rateOf ts k
  | 0, _, k, hk => by cases hk
  | n + 1, h, k, hk => by
    have h' : (overTo ts n || decide (rateOf ts n < kidTo ts (n : Int) ts.length)) = false := h
    rw [Bool.or_eq_false_iff] at h'
    by_cases e : k = n
    · subst e
      have := of_decide_eq_false h'.2
      omega
    · exact over_all h'.1 k (by omega)
theorem code_sum {ts : List Q4} (hl : lenB ts = true) (h : firstC ts ts.length = 0) (ho : overTo ts ts.length = true) : treeCode ts = 4 := by unfold treeCode; rw [if_pos hl, if_pos h, if_pos ho]
theorem code_zero {ts : List Q4} (hl : lenB ts = true) (h : firstC ts ts.length = 0) (ho : overTo ts ts.length = false) : treeCode ts = 0 := by unfold treeCode; rw [if_pos hl, if_pos h, ho]; rfl
/-- A tree. -/
structure IsTree (ts : List Q4) : Prop where
 l0 : 1 ≤ ts.length
 l1 : ts.length ≤ 30
 sound : Sound ts
 sum : ∀ k, k < ts.length → kidTo ts (k : Int) ts.length ≤ rateOf ts k
theorem tree_of {ts : List Q4} (h : treeCode ts = 0) : IsTree ts := by
 unfold treeCode at h
 by_cases hl : lenB ts = true
 · rw [if_pos hl] at h
   by_cases hf : firstC ts ts.length = 0
   · rw [if_pos hf] at h
     by_cases ho : overTo ts ts.length = true
     · rw [if_pos ho] at h; cases h
     · unfold lenB at hl
       rw [Bool.and_eq_true] at hl
       exact ⟨of_decide_eq_true hl.1, of_decide_eq_true hl.2, sound_of hf, over_all (by simpa using ho)⟩
   · rw [if_neg hf] at h
     exact absurd h hf
 · rw [if_neg hl] at h; cases h
theorem ret_i {f g : Int} (h : f = g) : Ending.returned (.int .i64 f) = .returned (.int .i64 g) := by rw [h]
theorem sRate_is {x : Int} {f : Bool} (h : rateB x = f) (w : World) : Calls Tryz.prog 163 #[.int .i64 x] w fun e w' => e = .returned (.bool f) ∧ w' = w := by subst h; exact rate_any x w
theorem sIn_is {lo x hi : Int} {f : Bool} (h : (decide (lo ≤ x) && decide (x ≤ hi)) = f) (w : World) : Calls Tryz.prog 25 #[.int .i64 x, .int .i64 lo, .int .i64 hi] w fun e w' => e = .returned (.bool f) ∧ w' = w := by subst h; exact in_any lo x hi w
theorem cls_parts {hi r c u : Int} {p : Int} : clsB hi (p, r, c, u) = ((((rateB r && rateB c) && decide (r ≤ c)) && decide (c ≤ hi)) && burB u) := rfl
theorem par_zero {p : Int} : parB 0 p = decide (p = -1) := rfl
theorem par_more {k : Nat} {p : Int} (h : k ≠ 0) : parB k p = (decide (0 ≤ p) && decide (p ≤ (k : Int) - 1)) := if_neg h
theorem up_zero {ts : List Q4} {p : Int} : ceilUp ts 0 p = 1000000000000 := rfl
theorem up_more {ts : List Q4} {k q : Nat} {p : Int} (h : k ≠ 0) (hp : p = q) : ceilUp ts k p = ceilOf ts q := by subst hp; exact if_neg h
theorem len_num {ts : List Q4} (h : lenB ts = true) : 1 ≤ ts.length ∧ ts.length ≤ 30 := by
 unfold lenB at h
 rw [Bool.and_eq_true] at h
 exact ⟨of_decide_eq_true h.1, of_decide_eq_true h.2⟩
theorem len_bad {ts : List Q4} (h : lenB ts = false) : ts.length = 0 ∨ 30 < ts.length := by
 unfold lenB at h
 rw [Bool.and_eq_false_iff] at h
 rcases h with h | h
 · have := of_decide_eq_false h; omega
 · have := of_decide_eq_false h; omega
set_option maxHeartbeats 1000000 in
theorem specTree_len {w : World} {a : Option Addr} (cap : Nat) {ts : List Q4} (hl : lenB ts = false) :
   Calls Tryz.prog 128 #[.slice a ts.length cap] w fun e w' => e = .returned (.int .i64 (treeCode ts)) ∧ Below w.heap.size w w' := by
 rw [code_len hl]
 rcases len_bad hl with h | h
 · have h' : (ts.length : Int) < 1 := by omega
   clear hl h
   go_enter Tryz.func128, Tryz.ntmps128
   go_wp2
   go_ret
   exact ⟨rfl, by go_grown⟩
 · have h' : (30 : Int) < (ts.length : Int) := by omega
   have h2 : decide ((ts.length : Int) < 1) = false := decide_eq_false (by omega)
   clear hl h
   go_enter Tryz.func128, Tryz.ntmps128
   go_wp2
   go_ret
   exact ⟨rfl, by go_grown⟩
set_option maxHeartbeats 8000000 in
theorem specTree_any {w : World} {a : Option Addr} (cap : Nat) {ts : List Q4} (h : Quad w.heap.size w a ts) :
   Calls Tryz.prog 128 #[.slice a ts.length cap] w fun e w' => e = .returned (.int .i64 (treeCode ts)) ∧ Below w.heap.size w w' := by
 cases hl : lenB ts
 · exact specTree_len cap hl
 have hn := len_num hl
 have n0 : decide ((ts.length : Int) < 1) = false := decide_eq_false (by omega)
 have n1 : decide ((30 : Int) < (ts.length : Int)) = false := decide_eq_false (by omega)
 have HL : Hid (lenB ts = true) := hl
 clear hl
 go_enter Tryz.func128, Tryz.ntmps128
 go_wp2
 go_loopw [4] (fun i wr => ∃ k : Nat, i = .int .i64 k ∧ k ≤ ts.length ∧ Hid (firstC ts k = 0) ∧ Below w.heap.size w wr) (fun i _ => ts.length - (intOf i).toNat)
 case atStart => exact ⟨0, rfl, by omega, rfl, by go_grown⟩
 case round =>
   obtain ⟨k, rfl, hk, HF, hbw⟩ := hrel
   by_cases hlt : k < ts.length
   · obtain ⟨b, off, rfl, hb, c0, c1, c2, c3⟩ := h.at hbw k hlt
     have hlt' : (k : Int) < (ts.length : Int) := by omega
     have zb := hbw.size
     have hbz : b < wr.heap.size := Nat.lt_of_lt_of_le hb hbw.size
     obtain ⟨x, hx⟩ : ∃ x, ts[k] = x := ⟨_, rfl⟩
     rw [hx] at c0 c1 c2 c3
     obtain ⟨p, r, c, u⟩ := x
     have HX : Hid (ts[k] = (p, r, c, u)) := hx
     clear hx
     simp only at c0 c1 c2 c3
     have bad2 : parB k p = false → treeCode ts = 2 := fun hp => by
       have e : codeT ts k ts[k] = 2 := by rw [HX.out]; exact code_par hp
       rw [code_bad HL.out hlt HF.out (by rw [e]; decide), e]
     by_cases hk0 : k = 0
     · subst hk0
       simp only [Nat.zero_mul, Nat.add_zero] at c0 c1 c2 c3
       by_cases hp : p = -1
       · subst hp
         clear bad2
         have bad3 : clsB 1000000000000 (-1, r, c, u) = false → treeCode ts = 3 := fun hp => by
           have e : codeT ts 0 ts[0] = 3 := by rw [HX.out]; exact code_cls rfl hp
           rw [code_bad HL.out hlt HF.out (by rw [e]; decide), e]
         have good0 : clsB 1000000000000 (-1, r, c, u) = true → firstC ts 1 = 0 := fun hp => by
           rw [first_next HF.out, codeAt_at hlt, HX.out]
           exact code_ok rfl hp
         cases h1 : rateB r
         · skip
           have HCC : clsB 1000000000000 (-1, r, c, u) = false := by rw [cls_parts]; simp [h1]
           have HC : Hid (treeCode ts = 3) := bad3 HCC
           clear HCC good0 bad3
           go_wp2
           go_quiet (first | (go_at_call 163; exact Calls.quiet_of_same (sRate_is h1 _)))
           go_wp2
           go_ret
           exact ⟨ret_i HC.out.symm, below_drews (by go_grown) _⟩
         · cases h2 : rateB c
           · skip
             have HCC : clsB 1000000000000 (-1, r, c, u) = false := by rw [cls_parts]; simp [h1, h2]
             have HC : Hid (treeCode ts = 3) := bad3 HCC
             clear HCC good0 bad3
             go_wp2
             go_quiet (first | (go_at_call 163; exact Calls.quiet_of_same (sRate_is h1 _)) | (go_at_call 163; exact Calls.quiet_of_same (sRate_is h2 _)))
             go_wp2
             go_ret
             exact ⟨ret_i HC.out.symm, below_drews (by go_grown) _⟩
           · by_cases h3 : r ≤ c
             · have h3' : decide (c < r) = false := decide_eq_false (by omega)
               cases h4 : (decide (1500 ≤ u) && decide (u ≤ 1000000000))
               · have h4' : burB u = false := h4
                 have HCC : clsB 1000000000000 (-1, r, c, u) = false := by rw [cls_parts]; simp [h1, h2, h3, h4']
                 have HC : Hid (treeCode ts = 3) := bad3 HCC
                 clear HCC good0 bad3
                 go_wp2
                 go_quiet (first | (go_at_call 163; exact Calls.quiet_of_same (sRate_is h1 _)) | (go_at_call 163; exact Calls.quiet_of_same (sRate_is h2 _)) | (go_at_call 25; exact Calls.quiet_of_same (sIn_is h4 _)))
                 go_wp2
                 go_ret
                 exact ⟨ret_i HC.out.symm, below_drews (by go_grown) _⟩
               · have h4' : burB u = true := h4
                 have h5 : c ≤ 1000000000000 := (rate_numT h2).2
                 have HCC : clsB 1000000000000 (-1, r, c, u) = true := by rw [cls_parts]; simp [h1, h2, h3, h4', h5]
                 have HN : Hid (firstC ts 1 = 0) := good0 HCC
                 clear HCC good0 bad3
                 go_wp2
                 go_quiet (first | (go_at_call 163; exact Calls.quiet_of_same (sRate_is h1 _)) | (go_at_call 163; exact Calls.quiet_of_same (sRate_is h2 _)) | (go_at_call 25; exact Calls.quiet_of_same (sIn_is h4 _)))
                 go_wp2
                 go_roundw
                 case rel => exact ⟨1, by go_num, by omega, HN, below_drews (by go_grown) _⟩
                 case measure => first | (simp [intOf]; done) | (simp [intOf]; omega)
             · have h3' : c < r := by omega
               have HCC : clsB 1000000000000 (-1, r, c, u) = false := by rw [cls_parts]; simp [h1, h2, h3]
               have HC : Hid (treeCode ts = 3) := bad3 HCC
               clear HCC good0 bad3
               go_wp2
               go_quiet (first | (go_at_call 163; exact Calls.quiet_of_same (sRate_is h1 _)) | (go_at_call 163; exact Calls.quiet_of_same (sRate_is h2 _)))
               go_wp2
               go_ret
               exact ⟨ret_i HC.out.symm, below_drews (by go_grown) _⟩
       · have hp' : (p == -1) = false := by simp [hp]
         have HC : Hid (treeCode ts = 2) := bad2 (by rw [par_zero]; exact decide_eq_false hp)
         clear bad2
         go_wp2
         go_ret
         exact ⟨ret_i HC.out.symm, by go_grown⟩
     · have k1 : (0 : Int) < (k : Int) := by omega
       have k2 : ((k : Int) == 0) = false := by simp [hk0]
       cases hpar : (decide (0 ≤ p) && decide (p ≤ (k : Int) - 1))
       · have HC : Hid (treeCode ts = 2) := bad2 (by rw [par_more hk0]; exact hpar)
         clear bad2
         go_wp2_with (first | (go_at_call 25; refine (sIn_is hpar _).mono ?_; rintro e w2 ⟨rfl, rfl⟩))
         go_ret
         exact ⟨ret_i HC.out.symm, by go_grown⟩
       · have hpn := par_num (k := k) (p := p) (by rw [par_more hk0]; exact hpar)
         have hp0 : 0 ≤ p := by rw [Bool.and_eq_true] at hpar; exact of_decide_eq_true hpar.1
         obtain ⟨q, rfl⟩ : ∃ q : Nat, p = q := ⟨p.toNat, by omega⟩
         have hq : q < ts.length := by omega
         have hq' : (q : Int) < (ts.length : Int) := by omega
         have hd2 := (h.cells hbw q hq).2.2.1
         obtain ⟨d, hd⟩ : ∃ d, ts[q].2.2.1 = d := ⟨_, rfl⟩
         rw [hd] at hd2
         have HD : Hid (ceilUp ts k q = d) := by
           show ceilUp ts k q = d
           rw [up_more hk0 rfl, ceilOf_at hq, hd]
         clear hd hpn bad2
         have bad3 : clsB d ((q : Int), r, c, u) = false → treeCode ts = 3 := fun hp => by
           have e : codeT ts k ts[k] = 3 := by rw [HX.out]; exact code_cls (by rw [par_more hk0]; exact hpar) (by rw [HD.out]; exact hp)
           rw [code_bad HL.out hlt HF.out (by rw [e]; decide), e]
         have good0 : clsB d ((q : Int), r, c, u) = true → firstC ts (k + 1) = 0 := fun hp => by
           rw [first_next HF.out, codeAt_at hlt, HX.out]
           exact code_ok (by rw [par_more hk0]; exact hpar) (by rw [HD.out]; exact hp)
         cases h1 : rateB r
         · skip
           have HCC : clsB d ((q : Int), r, c, u) = false := by rw [cls_parts]; simp [h1]
           have HC : Hid (treeCode ts = 3) := bad3 HCC
           clear HCC good0 bad3
           go_wp2_with (first | (go_at_call 25; refine (sIn_is hpar _).mono ?_; rintro e w2 ⟨rfl, rfl⟩))
           go_quiet (first | (go_at_call 163; exact Calls.quiet_of_same (sRate_is h1 _)))
           go_wp2
           go_ret
           exact ⟨ret_i HC.out.symm, below_drews (by go_grown) _⟩
         · cases h2 : rateB c
           · skip
             have HCC : clsB d ((q : Int), r, c, u) = false := by rw [cls_parts]; simp [h1, h2]
             have HC : Hid (treeCode ts = 3) := bad3 HCC
             clear HCC good0 bad3
             go_wp2_with (first | (go_at_call 25; refine (sIn_is hpar _).mono ?_; rintro e w2 ⟨rfl, rfl⟩))
             go_quiet (first | (go_at_call 163; exact Calls.quiet_of_same (sRate_is h1 _)) | (go_at_call 163; exact Calls.quiet_of_same (sRate_is h2 _)))
             go_wp2
             go_ret
             exact ⟨ret_i HC.out.symm, below_drews (by go_grown) _⟩
           · by_cases h3 : r ≤ c
             · have h3' : decide (c < r) = false := decide_eq_false (by omega)
               cases h4 : (decide (1500 ≤ u) && decide (u ≤ 1000000000))
               · have h4' : burB u = false := h4
                 have HCC : clsB d ((q : Int), r, c, u) = false := by rw [cls_parts]; simp [h1, h2, h3, h4']
                 have HC : Hid (treeCode ts = 3) := bad3 HCC
                 clear HCC good0 bad3
                 go_wp2_with (first | (go_at_call 25; refine (sIn_is hpar _).mono ?_; rintro e w2 ⟨rfl, rfl⟩))
                 go_quiet (first | (go_at_call 163; exact Calls.quiet_of_same (sRate_is h1 _)) | (go_at_call 163; exact Calls.quiet_of_same (sRate_is h2 _)) | (go_at_call 25; exact Calls.quiet_of_same (sIn_is h4 _)))
                 go_wp2
                 go_ret
                 exact ⟨ret_i HC.out.symm, below_drews (by go_grown) _⟩
               · have h4' : burB u = true := h4
                 by_cases h5 : c ≤ d
                 · have h5' : decide (d < c) = false := decide_eq_false (by omega)
                   have HCC : clsB d ((q : Int), r, c, u) = true := by rw [cls_parts]; simp [h1, h2, h3, h4', h5]
                   have HN : Hid (firstC ts (k + 1) = 0) := good0 HCC
                   clear HCC good0 bad3
                   go_wp2_with (first | (go_at_call 25; refine (sIn_is hpar _).mono ?_; rintro e w2 ⟨rfl, rfl⟩))
                   go_quiet (first | (go_at_call 163; exact Calls.quiet_of_same (sRate_is h1 _)) | (go_at_call 163; exact Calls.quiet_of_same (sRate_is h2 _)) | (go_at_call 25; exact Calls.quiet_of_same (sIn_is h4 _)))
                   go_wp2
                   go_roundw
                   case rel => exact ⟨k + 1, by go_num, by omega, HN, below_drews (by go_grown) _⟩
                   case measure => first | (simp [intOf]; done) | (simp [intOf]; omega)
                 · have h5' : d < c := by omega
                   have HCC : clsB d ((q : Int), r, c, u) = false := by rw [cls_parts]; simp [h1, h2, h3, h4', h5]
                   have HC : Hid (treeCode ts = 3) := bad3 HCC
                   clear HCC good0 bad3
                   go_wp2_with (first | (go_at_call 25; refine (sIn_is hpar _).mono ?_; rintro e w2 ⟨rfl, rfl⟩))
                   go_quiet (first | (go_at_call 163; exact Calls.quiet_of_same (sRate_is h1 _)) | (go_at_call 163; exact Calls.quiet_of_same (sRate_is h2 _)) | (go_at_call 25; exact Calls.quiet_of_same (sIn_is h4 _)))
                   go_wp2
                   go_ret
                   exact ⟨ret_i HC.out.symm, below_drews (by go_grown) _⟩
             · have h3' : c < r := by omega
               have HCC : clsB d ((q : Int), r, c, u) = false := by rw [cls_parts]; simp [h1, h2, h3]
               have HC : Hid (treeCode ts = 3) := bad3 HCC
               clear HCC good0 bad3
               go_wp2_with (first | (go_at_call 25; refine (sIn_is hpar _).mono ?_; rintro e w2 ⟨rfl, rfl⟩))
               go_quiet (first | (go_at_call 163; exact Calls.quiet_of_same (sRate_is h1 _)) | (go_at_call 163; exact Calls.quiet_of_same (sRate_is h2 _)))
               go_wp2
               go_ret
               exact ⟨ret_i HC.out.symm, below_drews (by go_grown) _⟩
   · have e : k = ts.length := by omega
     subst e
     have HS : Hid (Sound ts) := sound_of HF.out
     have hq : Quad w.heap.size wr a ts := h.mono hbw
     go_wp2
     go_loop [6] (fun i => ∃ k : Nat, i = .int .i64 k ∧ k ≤ ts.length ∧ Hid (overTo ts k = false)) (fun i => ts.length - (intOf i).toNat)
     case atStart => exact ⟨0, rfl, by omega, rfl⟩
     case round =>
       obtain ⟨k, rfl, hk, HO⟩ := hrel
       by_cases hlt : k < ts.length
       · obtain ⟨b, off, rfl, hb, c0, c1, c2, c3⟩ := hq.at (Below.refl _ _) k hlt
         have hlt' : (k : Int) < (ts.length : Int) := by omega
         have hln : (ts.length : Int) ≤ 30 := by omega
         go_wp2
         go_loop [7, 8] (fun s i => ∃ (m : Nat) (v : Int), i = .int .i64 m ∧ k + 1 ≤ m ∧ m ≤ ts.length ∧ s = .int .i64 v ∧ Hid (v = kidTo ts (k : Int) m)) (fun _ i => ts.length - (intOf i).toNat)
         case atStart => exact ⟨k + 1, 0, by go_num, by omega, by omega, rfl, (HS.out.none k (k + 1) (by omega)).symm⟩
         case round =>
           obtain ⟨m, v, rfl, hm0, hm, rfl, HV⟩ := hrel
           have hv := HS.out.kids (k : Int) m
           rw [← HV.out] at hv
           have hv0 := hv.1
           have hv1 : v ≤ 30000000000000 := by omega
           clear hv
           by_cases hlm : m < ts.length
           · obtain ⟨e0, e1, e2, e3⟩ := hq.cells (Below.refl _ _) m hlm
             have hlm' : (m : Int) < (ts.length : Int) := by omega
             have hr := HS.out.rate m hlm
             obtain ⟨x, hx⟩ : ∃ x, ts[m] = x := ⟨_, rfl⟩
             rw [hx] at e0 e1 e2 e3 hr
             obtain ⟨p, r, c, u⟩ := x
             have HX : Hid (ts[m] = (p, r, c, u)) := hx
             clear hx
             simp only at e0 e1 e2 e3 hr
             have hr0 := hr.1
             have hr1 := hr.2
             clear hr
             by_cases hp : p = (k : Int)
             · have HN : Hid (v + r = kidTo ts (k : Int) (m + 1)) := by
                 show v + r = kidTo ts (k : Int) m + kidAt ts (k : Int) m
                 rw [kidAt_yes hlm (by rw [HX.out]; exact hp), HX.out, ← HV.out]
               subst hp
               go_wp2
               go_round
               case rel => exact ⟨m + 1, v + r, by go_num, by omega, by omega, rfl, HN⟩
               case measure => first | (simp [intOf]; done) | (simp [intOf]; omega)
             · have HN : Hid (v = kidTo ts (k : Int) (m + 1)) := by
                 show v = kidTo ts (k : Int) m + kidAt ts (k : Int) m
                 rw [kidAt_no hlm (by rw [HX.out]; exact hp), ← HV.out, Int.add_zero]
               have hp' : (p == (k : Int)) = false := by simp [hp]
               go_wp2
               go_round
               case rel => exact ⟨m + 1, v, by go_num, by omega, by omega, rfl, HN⟩
               case measure => first | (simp [intOf]; done) | (simp [intOf]; omega)
           · have e : m = ts.length := by omega
             subst e
             have hrk := rateOf_at hlt
             obtain ⟨r, hr⟩ : ∃ r, ts[k].2.1 = r := ⟨_, rfl⟩
             rw [hr] at c1 hrk
             clear hr
             by_cases ho : r < v
             · have HC : Hid (treeCode ts = 4) := code_sum HL.out HF.out (over_at hlt (by rw [hrk, ← HV.out]; exact ho))
               clear hrk
               go_wp2
               go_ret
               exact ⟨ret_i HC.out.symm, hbw⟩
             · have HN : Hid (overTo ts (k + 1) = false) := over_next HO.out (by rw [hrk, ← HV.out]; exact ho)
               have ho' : decide (r < v) = false := decide_eq_false ho
               clear hrk
               go_wp2
               go_round
               case rel => exact ⟨k + 1, by go_num, by omega, HN⟩
               case measure => first | (simp [intOf]; done) | (simp [intOf]; omega)
       · have e : k = ts.length := by omega
         subst e
         have HC : Hid (treeCode ts = 0) := code_zero HL.out HF.out HO.out
         go_wp2
         go_ret
         exact ⟨ret_i HC.out.symm, hbw⟩
theorem below_app {w wr w' : World} {o : Obj} {row : Option Nat} (hb : Below w.heap.size w wr) (hg : (wr.alloc o).grownBy w' row) (hr : ∀ g, row = some g → w.heap.size ≤ g) : Below w.heap.size w w' :=
 (hb.alloc hb.size o).grown hg (Nat.le_trans hb.size (by simp)) hr
end Go.Proofs.YtkohlmloobojfaaGreat
