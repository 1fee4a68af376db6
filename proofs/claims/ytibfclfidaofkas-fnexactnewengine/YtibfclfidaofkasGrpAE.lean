/- Lemmas on the way, of several texts: SpecCon, EngMath. -/
import Derived.Test.YtibfclfidaofkasEngOpen
import Derived.Test.YtibfclfidaofkasGrpW
import Derived.Test.YtibfclfidaofkasGrpM
import Derived.Test.YtibfclfidaofkasGrpX
import Derived.Test.YtibfclfidaofkasSpecPlc
namespace Go.Proofs.Ytibfclfidaofkas
open Go.ChangeShapes Go.WideShapes Go.ChangeAt Go.RowKit
set_option maxRecDepth 100000
set_option linter.unusedVariables false
set_option linter.unusedSimpArgs false

def conB (T : List Q4) (nL : Nat) (c : Kn) : Bool := (((((((inQ 0 c.id 1000000) && inQ 0 c.lf ((T.length : Int) - 1)) && leafB T c.lf) && inQ 0 c.pl ((nL : Int) - 1)) && ccB c.k c.wn c.th c.fl c.ac c.la c.og c.st c.fr) && !decide (c.k = 3)) && decide (c.xs.length ≤ 100)) && c.xs.all segB
theorem all_step {xs : List Int} {k : Nat} (h : k < xs.length) (hf : ∀ j (hj : j < xs.length), j < k → segB xs[j] = true) (e : segB xs[k] = true) : ∀ j (hj : j < xs.length), j < k + 1 → segB xs[j] = true := fun j hj hk => by
  by_cases hjk : j = k
  · subst hjk; exact e
  · exact hf j hj (by omega)
theorem all_done {xs : List Int} (hf : ∀ j (hj : j < xs.length), j < xs.length → segB xs[j] = true) : xs.all segB = true := by
  rw [List.all_eq_true]
  intro x hx
  obtain ⟨i, hi, rfl⟩ := List.mem_iff_getElem.1 hx
  exact hf i hi hi
theorem all_not {xs : List Int} {k : Nat} (h : k < xs.length) (e : segB xs[k] = false) : xs.all segB = false := by
  rw [List.all_eq_false]
  exact ⟨_, List.getElem_mem h, by rw [e]; simp⟩
theorem retC {f g : Bool} (h : f = g) : Ending.returned (.bool f) = .returned (.bool g) := by rw [h]
set_option maxHeartbeats 8000000 in
theorem specConn_any {w : World} (now nx : Int) {aT aO aP aL aK sa : Option Addr} {cT nO cO nP cP nL cL nK cK sc : Nat} {T : List Q4} (c : Kn) (hT : Quad w.heap.size w aT T) (hl : T.length ≤ 1048576) (hL : nL ≤ 1048576) (hs : ISmp w.heap.size w sa c.xs) (hm : c.xs.length ≤ maxLen) :
    Calls Try.prog 24 #[engV now aT T.length cT aO nO cO aP nP cP aL nL cL aK nK cK nx, .agg #[.int .i64 c.id, .int .i64 c.lf, .int .i64 c.pl, .int .i64 c.k, .int .i64 c.wn, .int .i64 c.th, .int .i64 c.fl, .int .i64 c.ac, .int .i64 c.la, .int .i64 c.og, .int .i64 c.st, .int .i64 c.fr, .bool c.sl, .slice sa c.xs.length sc]] w fun e w' => e = .returned (.bool (conB T nL c)) ∧ Below w.heap.size w w' := by
  have hli : (T.length : Int) ≤ 1048576 := by omega
  have hLi : (nL : Int) ≤ 1048576 := by omega
  have hmi : (c.xs.length : Int) ≤ 9223372036854775807 := by unfold maxLen at hm; omega
  obtain ⟨v, hv⟩ : ∃ v, v = (w.alloc (.cells #[.int .i64 now, .slice aT T.length cT, .slice aO nO cO, .slice aP nP cP, .slice aL nL cL, .slice aK nK cK, .int .i64 nx] 39)).alloc (.cells #[.int .i64 c.id, .int .i64 c.lf, .int .i64 c.pl, .int .i64 c.k, .int .i64 c.wn, .int .i64 c.th, .int .i64 c.fl, .int .i64 c.ac, .int .i64 c.la, .int .i64 c.og, .int .i64 c.st, .int .i64 c.fr, .bool c.sl, .slice sa c.xs.length sc] 64) := ⟨_, rfl⟩
  have nb : Below w.heap.size w v := by rw [hv]; go_grown
  have L0 : Lay v w.heap.size [.int .i64 now, .slice aT T.length cT, .slice aO nO cO, .slice aP nP cP, .slice aL nL cL, .slice aK nK cK, .int .i64 nx] := by rw [hv]; exact (lay_new [.int .i64 now, .slice aT T.length cT, .slice aO nO cO, .slice aP nP cP, .slice aL nL cL, .slice aK nK cK, .int .i64 nx] _ rfl).alloc _ _
  have L1 : Lay v (w.heap.size + 1) [.int .i64 c.id, .int .i64 c.lf, .int .i64 c.pl, .int .i64 c.k, .int .i64 c.wn, .int .i64 c.th, .int .i64 c.fl, .int .i64 c.ac, .int .i64 c.la, .int .i64 c.og, .int .i64 c.st, .int .i64 c.fr, .bool c.sl, .slice sa c.xs.length sc] := by rw [hv]; exact lay_new [.int .i64 c.id, .int .i64 c.lf, .int .i64 c.pl, .int .i64 c.k, .int .i64 c.wn, .int .i64 c.th, .int .i64 c.fl, .int .i64 c.ac, .int .i64 c.la, .int .i64 c.og, .int .i64 c.st, .int .i64 c.fr, .bool c.sl, .slice sa c.xs.length sc] _ (by simp)
  have r1 : v.cell? ⟨w.heap.size, 1, none⟩ = some (.slice aT T.length cT) := L0.cell 1 _ rfl
  have r4 : v.cell? ⟨w.heap.size, 4, none⟩ = some (.slice aL nL cL) := L0.cell 4 _ rfl
  have s0 : v.cell? ⟨w.heap.size + 1, 0, none⟩ = some (.int .i64 c.id) := L1.cell 0 _ rfl
  have s1 : v.cell? ⟨w.heap.size + 1, 1, none⟩ = some (.int .i64 c.lf) := L1.cell 1 _ rfl
  have s2 : v.cell? ⟨w.heap.size + 1, 2, none⟩ = some (.int .i64 c.pl) := L1.cell 2 _ rfl
  have s3 : v.cell? ⟨w.heap.size + 1, 3, none⟩ = some (.int .i64 c.k) := L1.cell 3 _ rfl
  have s4 : v.cell? ⟨w.heap.size + 1, 4, none⟩ = some (.int .i64 c.wn) := L1.cell 4 _ rfl
  have s5 : v.cell? ⟨w.heap.size + 1, 5, none⟩ = some (.int .i64 c.th) := L1.cell 5 _ rfl
  have s6 : v.cell? ⟨w.heap.size + 1, 6, none⟩ = some (.int .i64 c.fl) := L1.cell 6 _ rfl
  have s7 : v.cell? ⟨w.heap.size + 1, 7, none⟩ = some (.int .i64 c.ac) := L1.cell 7 _ rfl
  have s8 : v.cell? ⟨w.heap.size + 1, 8, none⟩ = some (.int .i64 c.la) := L1.cell 8 _ rfl
  have s9 : v.cell? ⟨w.heap.size + 1, 9, none⟩ = some (.int .i64 c.og) := L1.cell 9 _ rfl
  have s10 : v.cell? ⟨w.heap.size + 1, 10, none⟩ = some (.int .i64 c.st) := L1.cell 10 _ rfl
  have s11 : v.cell? ⟨w.heap.size + 1, 11, none⟩ = some (.int .i64 c.fr) := L1.cell 11 _ rfl
  have s12 : v.cell? ⟨w.heap.size + 1, 12, none⟩ = some (.bool c.sl) := L1.cell 12 _ rfl
  have s13 : v.cell? ⟨w.heap.size + 1, 13, none⟩ = some (.slice sa c.xs.length sc) := L1.cell 13 _ rfl
  cases h1 : inQ 0 c.id 1000000
  · have HC : Hid (conB T nL c = false) := (show conB T nL c = _ by unfold conB; simp only [h1, Bool.true_and, Bool.false_and, Bool.and_false])
    go_enter Try.func24, Try.ntmps24
    go_upto_region 1 with (fail)
    rw [← hv]
    clear hv
    go_wp2_with (first | (go_at_call 23; refine (inQ_is h1 _).mono ?_; rintro e w3 ⟨rfl, e3⟩; replace e3 := e3.symm; subst e3; have g1 := True.intro))
    go_ret
    exact ⟨retC HC.out.symm, nb⟩
  cases h2 : inQ 0 c.lf ((T.length : Int) - 1)
  · have HC : Hid (conB T nL c = false) := (show conB T nL c = _ by unfold conB; simp only [h1, h2, Bool.true_and, Bool.false_and, Bool.and_false])
    go_enter Try.func24, Try.ntmps24
    go_upto_region 1 with (fail)
    rw [← hv]
    clear hv
    go_wp2_with (first | (go_at_call 23; have tk := g1; refine (inQ_is h2 _).mono ?_; rintro e w3 ⟨rfl, e3⟩; replace e3 := e3.symm; subst e3; have g2 := True.intro) | (go_at_call 23; refine (inQ_is h1 _).mono ?_; rintro e w3 ⟨rfl, e3⟩; replace e3 := e3.symm; subst e3; have g1 := True.intro))
    go_ret
    exact ⟨retC HC.out.symm, nb⟩
  cases h3 : leafB T c.lf
  · have HC : Hid (conB T nL c = false) := (show conB T nL c = _ by unfold conB; simp only [h1, h2, h3, Bool.true_and, Bool.false_and, Bool.and_false])
    go_enter Try.func24, Try.ntmps24
    go_upto_region 1 with (fail)
    rw [← hv]
    clear hv
    go_wp2_with (first | (go_at_call 56; refine (sLeaf_is cT h3 (hT.here nb) hl).mono ?_; rintro e w3 ⟨rfl, e3⟩; replace e3 := e3.symm; subst e3) | (go_at_call 23; have tk := g1; refine (inQ_is h2 _).mono ?_; rintro e w3 ⟨rfl, e3⟩; replace e3 := e3.symm; subst e3; have g2 := True.intro) | (go_at_call 23; refine (inQ_is h1 _).mono ?_; rintro e w3 ⟨rfl, e3⟩; replace e3 := e3.symm; subst e3; have g1 := True.intro))
    go_ret
    exact ⟨retC HC.out.symm, nb⟩
  cases h4 : inQ 0 c.pl ((nL : Int) - 1)
  · have HC : Hid (conB T nL c = false) := (show conB T nL c = _ by unfold conB; simp only [h1, h2, h3, h4, Bool.true_and, Bool.false_and, Bool.and_false])
    go_enter Try.func24, Try.ntmps24
    go_upto_region 1 with (fail)
    rw [← hv]
    clear hv
    go_wp2_with (first | (go_at_call 23; have tk := g2; refine (inQ_is h4 _).mono ?_; rintro e w3 ⟨rfl, e3⟩; replace e3 := e3.symm; subst e3) | (go_at_call 56; refine (sLeaf_is cT h3 (hT.here nb) hl).mono ?_; rintro e w3 ⟨rfl, e3⟩; replace e3 := e3.symm; subst e3) | (go_at_call 23; have tk := g1; refine (inQ_is h2 _).mono ?_; rintro e w3 ⟨rfl, e3⟩; replace e3 := e3.symm; subst e3; have g2 := True.intro) | (go_at_call 23; refine (inQ_is h1 _).mono ?_; rintro e w3 ⟨rfl, e3⟩; replace e3 := e3.symm; subst e3; have g1 := True.intro))
    go_ret
    exact ⟨retC HC.out.symm, nb⟩
  cases h5 : ccB c.k c.wn c.th c.fl c.ac c.la c.og c.st c.fr
  · have HC : Hid (conB T nL c = false) := (show conB T nL c = _ by unfold conB; simp only [h1, h2, h3, h4, h5, Bool.true_and, Bool.false_and, Bool.and_false])
    go_enter Try.func24, Try.ntmps24
    go_upto_region 1 with (fail)
    rw [← hv]
    clear hv
    go_wp2_with (first | (go_at_call 57; go_loud (refine (specCcOk_is h5 _ _).mono ?_; rintro e w3 ⟨rfl, e3⟩; have b3 : Below v.heap.size v w3 := (by rw [e3]; exact new_below _ _); clear e3; have bx := below_two nb b3; have M1 := L1.next b3; have m3 : w3.cell? ⟨w.heap.size + 1, 3, none⟩ = some (.int .i64 c.k) := M1.cell 3 _ rfl; have m13 : w3.cell? ⟨w.heap.size + 1, 13, none⟩ = some (.slice sa c.xs.length sc) := M1.cell 13 _ rfl)) | (go_at_call 23; have tk := g2; refine (inQ_is h4 _).mono ?_; rintro e w3 ⟨rfl, e3⟩; replace e3 := e3.symm; subst e3) | (go_at_call 56; refine (sLeaf_is cT h3 (hT.here nb) hl).mono ?_; rintro e w3 ⟨rfl, e3⟩; replace e3 := e3.symm; subst e3) | (go_at_call 23; have tk := g1; refine (inQ_is h2 _).mono ?_; rintro e w3 ⟨rfl, e3⟩; replace e3 := e3.symm; subst e3; have g2 := True.intro) | (go_at_call 23; refine (inQ_is h1 _).mono ?_; rintro e w3 ⟨rfl, e3⟩; replace e3 := e3.symm; subst e3; have g1 := True.intro))
    go_ret
    exact ⟨retC HC.out.symm, bx⟩
  by_cases hk : c.k = 3
  · have HC : Hid (conB T nL c = false) := (show conB T nL c = _ by unfold conB; simp only [h1, h2, h3, h4, h5, decide_eq_true hk, Bool.not_true, Bool.true_and, Bool.false_and, Bool.and_false])
    have hk' : (c.k == 3) = true := by simp [hk]
    clear hk
    go_enter Try.func24, Try.ntmps24
    go_upto_region 1 with (fail)
    rw [← hv]
    clear hv
    go_wp2_with (first | (go_at_call 57; go_loud (refine (specCcOk_is h5 _ _).mono ?_; rintro e w3 ⟨rfl, e3⟩; have b3 : Below v.heap.size v w3 := (by rw [e3]; exact new_below _ _); clear e3; have bx := below_two nb b3; have M1 := L1.next b3; have m3 : w3.cell? ⟨w.heap.size + 1, 3, none⟩ = some (.int .i64 c.k) := M1.cell 3 _ rfl; have m13 : w3.cell? ⟨w.heap.size + 1, 13, none⟩ = some (.slice sa c.xs.length sc) := M1.cell 13 _ rfl)) | (go_at_call 23; have tk := g2; refine (inQ_is h4 _).mono ?_; rintro e w3 ⟨rfl, e3⟩; replace e3 := e3.symm; subst e3) | (go_at_call 56; refine (sLeaf_is cT h3 (hT.here nb) hl).mono ?_; rintro e w3 ⟨rfl, e3⟩; replace e3 := e3.symm; subst e3) | (go_at_call 23; have tk := g1; refine (inQ_is h2 _).mono ?_; rintro e w3 ⟨rfl, e3⟩; replace e3 := e3.symm; subst e3; have g2 := True.intro) | (go_at_call 23; refine (inQ_is h1 _).mono ?_; rintro e w3 ⟨rfl, e3⟩; replace e3 := e3.symm; subst e3; have g1 := True.intro))
    go_ret
    exact ⟨retC HC.out.symm, bx⟩
  by_cases hq : (c.xs.length : Int) ≤ 100
  rotate_left
  · have HC : Hid (conB T nL c = false) := (show conB T nL c = _ by unfold conB; simp only [h1, h2, h3, h4, h5, decide_eq_false hk, Bool.not_false, decide_eq_false (show ¬ c.xs.length ≤ 100 by omega), Bool.true_and, Bool.false_and, Bool.and_false])
    have hq' : ¬ ((c.xs.length : Int) ≤ 100) := hq
    go_enter Try.func24, Try.ntmps24
    go_upto_region 1 with (fail)
    rw [← hv]
    clear hv
    go_wp2_with (first | (go_at_call 57; go_loud (refine (specCcOk_is h5 _ _).mono ?_; rintro e w3 ⟨rfl, e3⟩; have b3 : Below v.heap.size v w3 := (by rw [e3]; exact new_below _ _); clear e3; have bx := below_two nb b3; have M1 := L1.next b3; have m3 : w3.cell? ⟨w.heap.size + 1, 3, none⟩ = some (.int .i64 c.k) := M1.cell 3 _ rfl; have m13 : w3.cell? ⟨w.heap.size + 1, 13, none⟩ = some (.slice sa c.xs.length sc) := M1.cell 13 _ rfl)) | (go_at_call 23; have tk := g2; refine (inQ_is h4 _).mono ?_; rintro e w3 ⟨rfl, e3⟩; replace e3 := e3.symm; subst e3) | (go_at_call 56; refine (sLeaf_is cT h3 (hT.here nb) hl).mono ?_; rintro e w3 ⟨rfl, e3⟩; replace e3 := e3.symm; subst e3) | (go_at_call 23; have tk := g1; refine (inQ_is h2 _).mono ?_; rintro e w3 ⟨rfl, e3⟩; replace e3 := e3.symm; subst e3; have g2 := True.intro) | (go_at_call 23; refine (inQ_is h1 _).mono ?_; rintro e w3 ⟨rfl, e3⟩; replace e3 := e3.symm; subst e3; have g1 := True.intro))
    go_ret
    exact ⟨retC HC.out.symm, bx⟩
  have HC : Hid (conB T nL c = c.xs.all segB) := (show conB T nL c = _ by unfold conB; simp only [h1, h2, h3, h4, h5, decide_eq_false hk, Bool.not_false, decide_eq_true (show c.xs.length ≤ 100 by omega), Bool.true_and])
  have hk' : (c.k == 3) = false := by simp [hk]
  clear hk
  go_enter Try.func24, Try.ntmps24
  go_upto_region 1 with (fail)
  rw [← hv]
  clear hv
  go_wp2_with (first | (go_at_call 57; go_loud (refine (specCcOk_is h5 _ _).mono ?_; rintro e w3 ⟨rfl, e3⟩; have b3 : Below v.heap.size v w3 := (by rw [e3]; exact new_below _ _); clear e3; have bx := below_two nb b3; have M1 := L1.next b3; have m3 : w3.cell? ⟨w.heap.size + 1, 3, none⟩ = some (.int .i64 c.k) := M1.cell 3 _ rfl; have m13 : w3.cell? ⟨w.heap.size + 1, 13, none⟩ = some (.slice sa c.xs.length sc) := M1.cell 13 _ rfl)) | (go_at_call 23; have tk := g2; refine (inQ_is h4 _).mono ?_; rintro e w3 ⟨rfl, e3⟩; replace e3 := e3.symm; subst e3) | (go_at_call 56; refine (sLeaf_is cT h3 (hT.here nb) hl).mono ?_; rintro e w3 ⟨rfl, e3⟩; replace e3 := e3.symm; subst e3) | (go_at_call 23; have tk := g1; refine (inQ_is h2 _).mono ?_; rintro e w3 ⟨rfl, e3⟩; replace e3 := e3.symm; subst e3; have g2 := True.intro) | (go_at_call 23; refine (inQ_is h1 _).mono ?_; rintro e w3 ⟨rfl, e3⟩; replace e3 := e3.symm; subst e3; have g1 := True.intro))
  go_loop [5] (fun i => ∃ k : Nat, i = .int .i64 k ∧ k ≤ c.xs.length ∧ ∀ j (hj : j < c.xs.length), j < k → segB c.xs[j] = true) (fun i => c.xs.length - (intOf i).toNat)
  case atStart => exact ⟨0, rfl, by omega, fun j hj hk => by omega⟩
  case round =>
    obtain ⟨k, rfl, hk9, hf⟩ := hrel
    have HF : Hid (∀ j (hj : j < c.xs.length), j < k → segB c.xs[j] = true) := hf
    clear hf
    by_cases hlt : k < c.xs.length
    · obtain ⟨b, off, e, hbl, d0⟩ := hs.at bx k hlt
      subst e
      have hlt' : (k : Int) < (c.xs.length : Int) := by omega
      obtain ⟨x, hx⟩ : ∃ x, c.xs[k] = x := ⟨_, rfl⟩
      have HX : Hid (c.xs[k] = x) := hx
      rw [hx] at d0
      clear hx
      cases h8 : segB x
      · have HN : Hid (c.xs.all segB = false) := all_not hlt (by rw [HX.out]; exact h8)
        go_wp2_with (first | (go_at_call 58; refine (sSeg_is h8 _).mono ?_; rintro e w4 ⟨rfl, rfl⟩))
        go_ret
        exact ⟨retC (HC.out.trans HN.out).symm, bx⟩
      · have HS : Hid (∀ j (hj : j < c.xs.length), j < k + 1 → segB c.xs[j] = true) := all_step hlt HF.out (by rw [HX.out]; exact h8)
        go_wp2_with (first | (go_at_call 58; refine (sSeg_is h8 _).mono ?_; rintro e w4 ⟨rfl, rfl⟩))
        go_round
        case rel => exact ⟨k + 1, by go_num, by omega, HS.out⟩
        case measure => first | (simp [intOf]; done) | (simp [intOf]; omega)
    · have e : k = c.xs.length := by omega
      subst e
      have HN : Hid (c.xs.all segB = true) := all_done HF.out
      go_wp2
      go_ret
      exact ⟨retC (HC.out.trans HN.out).symm, bx⟩
end Go.Proofs.Ytibfclfidaofkas
namespace Go.Proofs.Ytibfclfidaofkas
open Go.ChangeShapes Go.WideShapes Go.ChangeAt Go.RowKit
set_option maxRecDepth 100000
set_option linter.unusedVariables false
set_option linter.unusedSimpArgs false

/-- The connections to a place. -/
def atP (K : List Kn) (p : Int) : List Kn := K.filter (fun c => decide (c.pl = p))
def idsK (K : List Kn) : List Int := K.map Kn.id
/-- What is in flight together. -/
def flK : List Kn → Int
  | [] => 0
  | c :: r => c.fl + flK r
theorem flK_append (a b : List Kn) : flK (a ++ b) = flK a + flK b := by
  induction a with
  | nil => simp [flK]
  | cons c r ih => simp only [List.cons_append, flK, ih]; omega
theorem idsK_append (a b : List Kn) : idsK (a ++ b) = idsK a ++ idsK b := List.map_append
theorem idsK_length (a : List Kn) : (idsK a).length = a.length := List.length_map ..
theorem idsK_at {a : List Kn} {i : Nat} (h : i < a.length) (h' : i < (idsK a).length) : (idsK a)[i] = a[i].id := List.getElem_map ..
theorem atP_append (a b : List Kn) (p : Int) : atP (a ++ b) p = atP a p ++ atP b p := List.filter_append ..
theorem atP_le (K : List Kn) (p : Int) : (atP K p).length ≤ K.length := List.length_filter_le ..
theorem take_next {α : Type} (K : List α) {k : Nat} (h : k < K.length) : K.take (k + 1) = K.take k ++ [K[k]] := by rw [List.take_append_getElem h]
theorem atP_yes {K : List Kn} {k : Nat} (h : k < K.length) {p : Int} (e : K[k].pl = p) : atP (K.take (k + 1)) p = atP (K.take k) p ++ [K[k]] := by
  rw [take_next K h, atP_append]
  congr 1
  simp [atP, e]
theorem atP_no {K : List Kn} {k : Nat} (h : k < K.length) {p : Int} (e : ¬ K[k].pl = p) : atP (K.take (k + 1)) p = atP (K.take k) p := by
  rw [take_next K h, atP_append]
  simp [atP, e]
/-- An Engine is right. -/
structure EgOk (now nx : Int) (T O P : List Q4) (L : List F8) (K : List Kn) : Prop where
  lend : lendB T O P = true
  at' : atOf O = now
  nx' : inQ 0 nx 1000001 = true
  l0 : 1 ≤ L.length
  l1 : L.length ≤ 10
  k1 : K.length ≤ 40
  con : ∀ i (h : i < K.length), conB T L.length K[i] = true
  rise : ∀ i (h : i < K.length) (h' : i + 1 < K.length), K[i].id < K[i + 1].id
  pl : ∀ p (h : p < L.length), plB L[p].1 L[p].2.1 L[p].2.2 = true ∧ L[p].2.1 = flK (atP K p) ∧ L[p].2.2 = idsK (atP K p)
open Classical in
noncomputable def engB (now nx : Int) (T O P : List Q4) (L : List F8) (K : List Kn) : Bool := decide (EgOk now nx T O P L K)
section
variable {now nx : Int} {T O P : List Q4} {L : List F8} {K : List Kn}
open Classical in
theorem eg_yes (h : engB now nx T O P L K = true) : EgOk now nx T O P L K := by
  unfold engB at h
  exact of_decide_eq_true h
open Classical in
theorem eg_no (h : engB now nx T O P L K = false) : ¬ EgOk now nx T O P L K := by
  unfold engB at h
  exact of_decide_eq_false h
open Classical in
theorem eg_true (h : EgOk now nx T O P L K) : engB now nx T O P L K = true := by
  unfold engB
  exact decide_eq_true h
open Classical in
theorem eg_false (h : ¬ EgOk now nx T O P L K) : engB now nx T O P L K = false := by
  unfold engB
  exact decide_eq_false h
end
theorem kc_fl {c : Kn} {T : List Q4} {n : Nat} (h : conB T n c = true) : 0 ≤ c.fl ∧ c.fl ≤ 1000000000 := by
  unfold conB at h
  simp only [Bool.and_eq_true] at h
  have h5 := h.1.1.1.2
  exact (cc_num h5).2.2.2.1
theorem atOf_at {O : List Q4} (h : 0 < O.length) : atOf O = O[0].2.2.2 := by
  unfold atOf
  rw [List.getElem?_eq_getElem h]
theorem undrewE {w w' : World} (h : Below w.drew.heap.size w.drew w') : Below w.heap.size w w' := (Below.refl _ _).drew.trans h
end Go.Proofs.Ytibfclfidaofkas
