/- Lemmas on the way, of several texts: Plc, SpecPlc, LendV, LendW, SpecCopy, EngOpen. -/
import Derived.Test.YtkohlmloobojfaaGreatGrpAJ
import Derived.Test.YtkohlmloobojfaaGreatGrpAI
import Derived.Test.YtkohlmloobojfaaGreatGrpAG
import Derived.Test.YtkohlmloobojfaaGreatGrpAO
import Derived.Deep.CutRange
import Derived.BigQuiet
import Derived.Deep.QuietTactic
import Derived.Test.YtkohlmloobojfaaGreatGrpAR
import Derived.Deep.Strs
import Derived.Deep.DeepCutAuto
import Derived.Test.YtkohlmloobojfaaGreatGrpAF
import Derived.Test.YtkohlmloobojfaaGreatGrpAC
import Derived.Laws.OwnMore
import Derived.Deep.RegionHeld3
import Derived.Test.YtkohlmloobojfaaGreatGrpAH
namespace Go.Proofs.YtkohlmloobojfaaGreat
open Go.ChangeShapes Go.WideShapes Go.ChangeAt Go.RowKit
set_option maxRecDepth 100000
set_option linter.unusedVariables false
set_option linter.unusedSimpArgs false
theorem over3 {w : World} {g : Nat} {u0 u1 u2 : Value} (c0 c1 c2 : Value) (h0 : w.cell? ⟨g, 0, none⟩ = some u0) (h1 : w.cell? ⟨g, 1, none⟩ = some u1) (h2 : w.cell? ⟨g, 2, none⟩ = some u2) :
   ∃ w4, w4 = (((w.setCell ⟨g, 0, none⟩ c0).setCell ⟨g, 1, none⟩ c1).setCell ⟨g, 2, none⟩ c2) ∧ (∀ j v, [c0, c1, c2][j]? = some v → w4.cell? ⟨g, j, none⟩ = some v) ∧ (∀ k o : Nat, w4.frozen? ⟨k, o, none⟩ = w.frozen? ⟨k, o, none⟩) ∧ w4.heap.size = w.heap.size ∧ (∀ B, B ≤ g → Below B w w4) ∧ Only g w w4 :=
 ⟨_, rfl, put3_zero c0 c1 c2 h0 h1 h2, fun k o => by simp, by simp, fun B hB => Below.setCell (Below.setCell (Below.setCell (Below.refl _ _) (p := ⟨g, 0, none⟩) hB _) (p := ⟨g, 1, none⟩) hB _) (p := ⟨g, 2, none⟩) hB _, Only.setCell (Only.setCell (Only.setCell (Only.refl _ _) (p := ⟨g, 0, none⟩) rfl _) (p := ⟨g, 1, none⟩) rfl _) (p := ⟨g, 2, none⟩) rfl _⟩
theorem IFill.only {w w' : World} {g n k b : Nat} {xs : List Int} (f : IFill w g n xs k) (o : Only b w w') (hg : g < w.heap.size) (hb : g ≠ b) : IFill w' g n xs k :=
 ⟨fun j hj => ⟨by obtain ⟨z, hz⟩ := (f.any j hj).1; exact ⟨z, (o.cell (by exact hg) (by exact hb)).trans hz⟩, (o.frozen (by exact hg) (by exact hb)).trans (f.any j hj).2⟩, fun i hi hk => (o.cell (by exact hg) (by exact hb)).trans (f.got i hi hk)⟩
def inQ (lo x hi : Int) : Bool := decide (lo ≤ x) && decide (x ≤ hi)
theorem inQ_is {lo x hi : Int} {f : Bool} (h : inQ lo x hi = f) (w : World) : Calls Tryz.prog 25 #[.int .i64 x, .int .i64 lo, .int .i64 hi] w fun e w' => e = .returned (.bool f) ∧ w' = w := by subst h; exact in_any lo x hi w
def MemTo (xs : List Int) (k : Nat) : Prop := ∀ i (h : i < xs.length), i < k → (0 ≤ xs[i] ∧ xs[i] ≤ 1000000) ∧ (∀ j (hj : j < xs.length), j + 1 = i → xs[j] < xs[i])
theorem MemTo.zero (xs : List Int) : MemTo xs 0 := fun i h hk => by omega
theorem MemTo.next {xs : List Int} {k : Nat} (h : MemTo xs k) (hk : k < xs.length) (h1 : 0 ≤ xs[k] ∧ xs[k] ≤ 1000000) (h2 : ∀ j (hj : j < xs.length), j + 1 = k → xs[j] < xs[k]) : MemTo xs (k + 1) := by
 intro i hi hik
 by_cases e : i = k
 · subst e
   exact ⟨h1, h2⟩
 · exact h i hi (by omega)
/-- When a Place is right. -/
def PlOk (wd fl : Int) (xs : List Int) : Prop := openB wd = true ∧ w10B fl = true ∧ xs.length ≤ 50 ∧ MemTo xs xs.length
open Classical in
noncomputable def plB (wd fl : Int) (xs : List Int) : Bool := decide (PlOk wd fl xs)
open Classical in
theorem pl_yes {wd fl : Int} {xs : List Int} (h : plB wd fl xs = true) : PlOk wd fl xs := by
 unfold plB at h
 exact of_decide_eq_true h
open Classical in
theorem pl_true {wd fl : Int} {xs : List Int} (h : PlOk wd fl xs) : plB wd fl xs = true := by
 unfold plB
 exact decide_eq_true h
open Classical in
theorem pl_false {wd fl : Int} {xs : List Int} (h : ¬ PlOk wd fl xs) : plB wd fl xs = false := by
 unfold plB
 exact decide_eq_false h
set_option maxHeartbeats 4000000 in
theorem specPlaceOk_any {wd fl : Int} {w : World} {a : Option Addr} (cap : Nat) {xs : List Int} (smp : ISmp w.heap.size w a xs) : Calls Tryz.prog 69 #[.agg #[.int .i64 wd, .int .i64 fl, .slice a xs.length cap]] w fun e w' => e = .returned (.bool (plB wd fl xs)) ∧ Below w.heap.size w w' := by
 cases h0 : openB wd
 · rw [pl_false (fun h => by have q := h.1; rw [h0] at q; cases q)]
   go_enter Tryz.func69, Tryz.ntmps69
   go_wp2_with (first
     | (go_at_call 131; refine (sBig_is h0 _).mono ?_; rintro e w2 ⟨rfl, rfl⟩))
   go_ret
   exact ⟨rfl, by go_grown⟩
 cases h1 : w10B fl
 · rw [pl_false (fun h => by have q := h.2.1; rw [h1] at q; cases q)]
   go_enter Tryz.func69, Tryz.ntmps69
   go_wp2_with (first
     | (go_at_call 131; refine (sBig_is h0 _).mono ?_; rintro e w2 ⟨rfl, rfl⟩)
     | (go_at_call 123; refine (sWin_is h1 _).mono ?_; rintro e w2 ⟨rfl, rfl⟩))
   go_ret
   exact ⟨rfl, by go_grown⟩
 by_cases h2 : (50 : Int) < (xs.length : Int)
 · rw [pl_false (fun h => by have := h.2.2.1; omega)]
   go_enter Tryz.func69, Tryz.ntmps69
   go_wp2_with (first
     | (go_at_call 131; refine (sBig_is h0 _).mono ?_; rintro e w2 ⟨rfl, rfl⟩)
     | (go_at_call 123; refine (sWin_is h1 _).mono ?_; rintro e w2 ⟨rfl, rfl⟩))
   go_ret
   exact ⟨rfl, by go_grown⟩
 have h2' : decide ((50 : Int) < (xs.length : Int)) = false := decide_eq_false h2
 obtain ⟨f, hf⟩ : ∃ f, plB wd fl xs = f := ⟨_, rfl⟩
 rw [hf]
 go_enter Tryz.func69, Tryz.ntmps69
 go_upto_region 3 with (first
   | (go_at_call 131; refine (sBig_is h0 _).mono ?_; rintro e w2 ⟨rfl, rfl⟩)
   | (go_at_call 123; refine (sWin_is h1 _).mono ?_; rintro e w2 ⟨rfl, rfl⟩))
 obtain ⟨x, hx⟩ : ∃ x, x = w.alloc (.cells #[.int .i64 wd, .int .i64 fl, .slice a xs.length cap] 58) := ⟨_, rfl⟩
 rw [← hx]
 have hbx : Below w.heap.size w x := by rw [hx]; go_grown
 have p2 : x.cell? ⟨w.heap.size, 2, none⟩ = some (.slice a xs.length cap) := by rw [hx]; go_simp
 have hxz : w.heap.size < x.heap.size := by rw [hx]; simp
 clear hx
 go_wp2
 go_loopw [3] (fun i wr => ∃ (k : Nat), i = .int .i64 k ∧ k ≤ xs.length ∧ MemTo xs k ∧ Below x.heap.size x wr) (fun i _ => xs.length - (intOf i).toNat)
 case atStart => exact ⟨0, rfl, by omega, MemTo.zero xs, Below.refl _ _⟩
 case round =>
   obtain ⟨k, rfl, hk, hM, hbr⟩ := hrel
   have p2 : wr.cell? ⟨w.heap.size, 2, none⟩ = some (.slice a xs.length cap) := (hbr.cell (by exact hxz)).trans p2
   have hbx : Below w.heap.size w wr := below_two hbx hbr
   by_cases hlt : k < xs.length
   · have hlt' : (k : Int) < (xs.length : Int) := by omega
     have hk0 : (0 : Int) ≤ (k : Int) := by omega
     cases h3 : inQ 0 xs[k] 1000000
     · obtain rfl : f = false := by
         rw [← hf]
         refine pl_false (fun h => ?_)
         have := (h.2.2.2 k hlt hlt).1
         unfold inQ at h3
         simp [this.1, this.2] at h3
       obtain ⟨b, off, rfl, hb, c0⟩ := smp.at hbx k hlt
       obtain ⟨y, hy⟩ : ∃ y, xs[k] = y := ⟨_, rfl⟩
       rw [hy] at c0 h3
       clear hy hf
       go_wp2
       go_quiet (first | (go_at_call 25; exact Calls.quiet_of_same (inQ_is h3 _)))
       go_wp2
       go_ret
       exact ⟨rfl, below_drews hbx _⟩
     have h3n : 0 ≤ xs[k] ∧ xs[k] ≤ 1000000 := by
       unfold inQ at h3
       simp only [Bool.and_eq_true, decide_eq_true_eq] at h3
       exact h3
     by_cases hz : k = 0
     · subst hz
       have hN : MemTo xs 1 := hM.next hlt h3n (fun j hj e => by omega)
       obtain ⟨b, off, rfl, hb, c0⟩ := smp.at hbx 0 hlt
       have hlt0 : (0 : Int) < (xs.length : Int) := by omega
       obtain ⟨y, hy⟩ : ∃ y, xs[0] = y := ⟨_, rfl⟩
       rw [hy] at c0 h3
       rw [Nat.add_zero] at c0
       clear hy h3n
       go_wp2
       go_quiet (first | (go_at_call 25; exact Calls.quiet_of_same (inQ_is h3 _)))
       go_wp2
       go_roundw
       case rel => exact ⟨1, by go_num, by omega, hN, below_drews hbr _⟩
       case measure => first | (simp [intOf]; done) | (simp [intOf]; omega)
     obtain ⟨l, rfl⟩ : ∃ l, k = l + 1 := ⟨k - 1, by omega⟩
     have hl1 : IntKind.i64.wrap ((l : Int) + 1 - 1) = (l : Int) := by rw [IntKind.wrap_i64]; omega
     have hl2 : IntKind.i64.wrap (((l + 1 : Nat) : Int) - 1) = (l : Int) := by rw [IntKind.wrap_i64]; omega
     have hl3 : (l : Int) < (xs.length : Int) := by omega
     have hl4 : (0 : Int) < ((l + 1 : Nat) : Int) := by omega
     have hl5 : (0 : Int) < (l : Int) + 1 := by omega
     have hl6 : IntKind.i64.wrap (l : Int) = (l : Int) := by rw [IntKind.wrap_i64]; omega
     obtain ⟨b, off, rfl, hb, c0⟩ := smp.at hbx (l + 1) hlt
     obtain ⟨b', off', e', hb', c1⟩ := smp.at hbx l (by omega)
     injection e' with e'
     injection e' with e1 e2
     subst e1 e2
     obtain ⟨y, hy⟩ : ∃ y, xs[l + 1] = y := ⟨_, rfl⟩
     obtain ⟨z, hzz⟩ : ∃ z, xs[l] = z := ⟨_, rfl⟩
     by_cases h4 : y ≤ z
     · obtain rfl : f = false := by
         rw [← hf]
         refine pl_false (fun h => ?_)
         have := (h.2.2.2 (l + 1) hlt hlt).2 l (by omega) rfl
         rw [hy, hzz] at this
         omega
       rw [hy] at c0 h3
       rw [hzz] at c1
       clear hy hzz hf h3n
       go_wp2
       go_quiet (first | (go_at_call 25; exact Calls.quiet_of_same (inQ_is h3 _)))
       go_wp2
       go_ret
       exact ⟨rfl, below_drews hbx _⟩
     · have hN : MemTo xs (l + 1 + 1) := hM.next hlt h3n (fun j hj e => by obtain rfl : j = l := (by omega); rw [hy, hzz]; omega)
       rw [hy] at c0 h3
       rw [hzz] at c1
       clear hy hzz h3n
       go_wp2
       go_quiet (first | (go_at_call 25; exact Calls.quiet_of_same (inQ_is h3 _)))
       go_wp2
       go_roundw
       case rel => exact ⟨l + 1 + 1, by go_num, by omega, hN, below_drews hbr _⟩
       case measure => first | (simp [intOf]; done) | (simp [intOf]; omega)
   · have e : k = xs.length := by omega
     subst e
     obtain rfl : f = true := by
       rw [← hf]
       exact pl_true ⟨h0, h1, by omega, hM⟩
     go_wp2
     go_ret
     exact ⟨rfl, hbx⟩
theorem cells_clsS : Tryz.prog.cellsOf 22 = 1 := by kernel_rfl
theorem cells_bktS : Tryz.prog.cellsOf 23 = 1 := by kernel_rfl
abbrev lendV (aT : Option Addr) (nT cT : Nat) (aO : Option Addr) (nO cO : Nat) (aP : Option Addr) (nP cP : Nat) : Value := .agg #[.slice aT nT cT, .slice aO nO cO, .slice aP nP cP]
set_option maxHeartbeats 1000000 in
theorem szLend_any (aT : Option Addr) (nT cT : Nat) (aO : Option Addr) (nO cO : Nat) (aP : Option Addr) (nP cP : Nat) (w : World) (hT : (nT : Int) ≤ 9223372036854775807) (hO : (nO : Int) ≤ 9223372036854775807) (hP : (nP : Int) ≤ 9223372036854775807) :
   Calls Tryz.prog 20 #[lendV aT nT cT aO nO cO aP nP cP, .int .i64 1048576] w fun e w' => e = .returned (.int .i64 (if nT + nO + nP ≤ 1048576 then 1048576 - (nT : Int) - (nO : Int) - (nP : Int) else -1)) ∧ Below w.heap.size w w' := by
 by_cases h1 : (nT : Int) ≤ 1048576
 · have f1 : (0 : Int) ≤ 1048576 - (nT : Int) := by omega
   by_cases h2 : (nO : Int) ≤ 1048576 - (nT : Int)
   · have f2 : (0 : Int) ≤ 1048576 - (nT : Int) - (nO : Int) := by omega
     by_cases h3 : (nP : Int) ≤ 1048576 - (nT : Int) - (nO : Int)
     · have f3 : (0 : Int) ≤ 1048576 - (nT : Int) - (nO : Int) - (nP : Int) := by omega
       rw [if_pos (by omega)]
       go_enter Tryz.func20, Tryz.ntmps20
       go_upto_region 4 with (go_at_call 62; refine (szClassS_gen _ _ _ _ _ hT (by omega) (by omega)).mono ?_; rintro e w2 ⟨rfl, rfl⟩; rw [if_pos h1])
       go_upto_region 7 with (go_at_call 63; refine (szBucketS_gen _ _ _ _ _ hO (by omega) (by omega)).mono ?_; rintro e w3 ⟨rfl, rfl⟩; rw [if_pos h2])
       go_wp2_with (go_at_call 63; refine (szBucketS_gen _ _ _ _ _ hP (by omega) (by omega)).mono ?_; rintro e w4 ⟨rfl, rfl⟩; rw [if_pos h3])
       go_ret
       exact ⟨rfl, by go_grown⟩
     · rw [if_neg (by omega)]
       have H3 : Hid (1048576 - (nT : Int) - (nO : Int) < (nP : Int)) := Int.not_le.1 h3
       clear h3
       go_enter Tryz.func20, Tryz.ntmps20
       go_upto_region 4 with (go_at_call 62; refine (szClassS_gen _ _ _ _ _ hT (by omega) (by omega)).mono ?_; rintro e w2 ⟨rfl, rfl⟩; rw [if_pos h1])
       go_upto_region 7 with (go_at_call 63; refine (szBucketS_gen _ _ _ _ _ hO (by omega) (by omega)).mono ?_; rintro e w3 ⟨rfl, rfl⟩; rw [if_pos h2])
       go_wp2_with (go_at_call 63; refine (szBucketS_gen _ _ _ _ _ hP (by omega) (by omega)).mono ?_; rintro e w4 ⟨rfl, rfl⟩; rw [if_neg (Int.not_le.2 H3.out)])
       go_ret
       exact ⟨rfl, by go_grown⟩
   · rw [if_neg (by omega)]
     have H2 : Hid (1048576 - (nT : Int) < (nO : Int)) := Int.not_le.1 h2
     clear h2
     go_enter Tryz.func20, Tryz.ntmps20
     go_upto_region 4 with (go_at_call 62; refine (szClassS_gen _ _ _ _ _ hT (by omega) (by omega)).mono ?_; rintro e w2 ⟨rfl, rfl⟩; rw [if_pos h1])
     go_wp2_with (go_at_call 63; refine (szBucketS_gen _ _ _ _ _ hO (by omega) (by omega)).mono ?_; rintro e w3 ⟨rfl, rfl⟩; rw [if_neg (Int.not_le.2 H2.out)])
     go_ret
     exact ⟨rfl, by go_grown⟩
 · rw [if_neg (by omega)]
   go_enter Tryz.func20, Tryz.ntmps20
   go_wp2_with (go_at_call 62; refine (szClassS_gen _ _ _ _ _ hT (by omega) (by omega)).mono ?_; rintro e w2 ⟨rfl, rfl⟩; rw [if_neg h1])
   go_ret
   exact ⟨rfl, by go_grown⟩
set_option maxHeartbeats 2000000 in
theorem eqLend_any {w : World} {aT aO aP bT bO bP : Option Addr} (cT cO cP dT dO dP : Nat) {T O P T' O' P' : List Q4} (hT : Quad w.heap.size w aT T) (hO : Quad w.heap.size w aO O) (hP : Quad w.heap.size w aP P) (hT' : Quad w.heap.size w bT T') (hO' : Quad w.heap.size w bO O') (hP' : Quad w.heap.size w bP P') (nT : T.length ≤ 4611686018427387904) (nO : O.length ≤ 4611686018427387904) (nP : P.length ≤ 4611686018427387904) :
   Calls Tryz.prog 42 #[lendV aT T.length cT aO O.length cO aP P.length cP, lendV bT T'.length dT bO O'.length dO bP P'.length dP] w fun e w' => e = .returned (.bool ((decide (T = T') && decide (O = O')) && decide (P = P'))) ∧ Below w.heap.size w w' := by
 have C0 : Hid (Kept w [(w.heap.size, 1, .slice aO O.length cO), (w.heap.size, 2, .slice aP P.length cP), (w.heap.size + 1, 1, .slice bO O'.length dO), (w.heap.size + 1, 2, .slice bP P'.length dP)] [] ((w.alloc (.cells #[.slice aT T.length cT, .slice aO O.length cO, .slice aP P.length cP] 34)).alloc (.cells #[.slice bT T'.length dT, .slice bO O'.length dO, .slice bP P'.length dP] 34))) :=
   ⟨⟨⟨by simp; omega, by go_simp⟩, ⟨by simp; omega, by go_simp⟩, ⟨by simp, by go_simp⟩, ⟨by simp, by go_simp⟩, trivial⟩, (fun b hb => by cases hb), by go_grown⟩
 obtain ⟨d1, h1⟩ : ∃ d, decide (T = T') = d := ⟨_, rfl⟩
 obtain ⟨d2, h2⟩ : ∃ d, decide (O = O') = d := ⟨_, rfl⟩
 obtain ⟨d3, h3⟩ : ∃ d, decide (P = P') = d := ⟨_, rfl⟩
 have H1 : Hid (decide (T = T') = d1) := h1
 have H2 : Hid (decide (O = O') = d2) := h2
 have H3 : Hid (decide (P = P') = d3) := h3
 rw [h1, h2, h3]
 clear h1 h2 h3
 cases d1
 · go_enter Tryz.func42, Tryz.ntmps42
   go_wp2_with (first
     | (go_at_call 104; refine (eqClassS_any cT dT (hT.here C0.out.hb) (hT'.here C0.out.hb) nT).mono ?_; rintro e w2 ⟨rfl, hb2⟩; rw [H1.out]; have K2 := C0.out.next hb2))
   go_ret
   exact ⟨rfl, K2.hb⟩
 · cases d2
   · go_enter Tryz.func42, Tryz.ntmps42
     go_wp2_with (first
       | (go_at_call 104; refine (eqClassS_any cT dT (hT.here C0.out.hb) (hT'.here C0.out.hb) nT).mono ?_; rintro e w2 ⟨rfl, hb2⟩; rw [H1.out]; have K2 := C0.out.next hb2; have ⟨⟨kz0, k0⟩, ⟨kz1, k1⟩, ⟨kz2, k2⟩, ⟨kz3, k3⟩, _⟩ := K2.cells; have hb0 := K2.hb; clear K2)
       | (go_at_call 105; refine (eqBucketS_any cO dO (hO.here hb0) (hO'.here hb0) nO).mono ?_; rintro e w3 ⟨rfl, hb3⟩; rw [H2.out]; have hb5 := below_step hb0 hb3))
     go_ret
     exact ⟨rfl, hb5⟩
   · cases d3
     all_goals
       go_enter Tryz.func42, Tryz.ntmps42
       go_wp2_with (first
         | (go_at_call 104; refine (eqClassS_any cT dT (hT.here C0.out.hb) (hT'.here C0.out.hb) nT).mono ?_; rintro e w2 ⟨rfl, hb2⟩; rw [H1.out]; have K2 := C0.out.next hb2; have ⟨⟨kz0, k0⟩, ⟨kz1, k1⟩, ⟨kz2, k2⟩, ⟨kz3, k3⟩, _⟩ := K2.cells; have hb0 := K2.hb; have KK : Hid (Kept w _ [] w2) := K2; clear K2)
         | (go_at_call 105; have g1 := hq5; refine (eqBucketS_any cP dP (hP.here hb5) (hP'.here hb5) nP).mono ?_; rintro e w4 ⟨rfl, hb4⟩; rw [H3.out]; have hb6 := below_step hb5 hb4)
         | (go_at_call 105; refine (eqBucketS_any cO dO (hO.here hb0) (hO'.here hb0) nO).mono ?_; rintro e w3 ⟨rfl, hb3⟩; rw [H2.out]; have hb5 := below_step hb0 hb3; have hq5 := hb5.size; have K3 := KK.out.next hb3; have ⟨⟨jz0, j0⟩, ⟨jz1, j1⟩, ⟨jz2, j2⟩, ⟨jz3, j3⟩, _⟩ := K3.cells; clear K3))
       go_ret
       exact ⟨rfl, hb6⟩
/-- Only blocks of which p says so have turned. -/
structure OnlyP (p : Nat → Prop) (w w' : World) : Prop where
 os : w'.os = w.os
 tape : w'.tape = w.tape
 output : w'.output = w.output
 size : w.heap.size ≤ w'.heap.size
 block : ∀ k, k < w.heap.size → ¬ p k → w'.heap[k]? = w.heap[k]?
theorem OnlyP.of {o : Option Nat} {w w' : World} (h : OnlyO o w w') : OnlyP (fun k => o = some k) w w' := ⟨h.os, h.tape, h.output, h.size, h.block⟩
theorem OnlyP.refl (p : Nat → Prop) (w : World) : OnlyP p w w := ⟨rfl, rfl, rfl, Nat.le_refl _, fun _ _ _ => rfl⟩
theorem OnlyP.trans {p q : Nat → Prop} {u v w : World} (h : OnlyP p u v) (k : OnlyP q v w) : OnlyP (fun b => p b ∨ q b) u w :=
 ⟨k.os.trans h.os, k.tape.trans h.tape, k.output.trans h.output, Nat.le_trans h.size k.size, fun b hb hn => (k.block b (Nat.lt_of_lt_of_le hb h.size) (fun e => hn (.inr e))).trans (h.block b hb (fun e => hn (.inl e)))⟩
theorem OnlyP.of_below {p : Nat → Prop} {w w' : World} (h : Below w.heap.size w w') : OnlyP p w w' := ⟨h.os, h.tape, h.output, h.size, fun k hk _ => h.block k hk⟩
theorem OnlyP.weak {p q : Nat → Prop} {w w' : World} (h : OnlyP p w w') (hp : ∀ k, p k → q k) : OnlyP q w w' := ⟨h.os, h.tape, h.output, h.size, fun k hk hn => h.block k hk (fun e => hn (hp k e))⟩
theorem OnlyP.below {p : Nat → Prop} {w w' : World} {B : Nat} (h : OnlyP p w w') (hp : ∀ k, p k → B ≤ k) (hB : B ≤ w.heap.size) : Below B w w' :=
 ⟨h.os, h.tape, h.output, h.size, fun k hk => h.block k (by omega) (fun e => by have := hp k e; omega)⟩
theorem QFill.onlyP {w w' : World} {g n k : Nat} {xs : List Q4} {p : Nat → Prop} (f : QFill w g n xs k) (ho : OnlyP p w w') (hg : g < w.heap.size) (hn : ¬ p g) : QFill w' g n xs k := by
 have e := ho.block g hg hn
 have hc : ∀ j, w'.cell? ⟨g, j, none⟩ = w.cell? ⟨g, j, none⟩ := fun j => World.cell?_of_block e
 have hf : ∀ j, w'.frozen? ⟨g, j, none⟩ = w.frozen? ⟨g, j, none⟩ := fun j => World.frozen?_of_block e
 refine ⟨fun j hj => ?_, fun i hi hk => ?_⟩
 · rw [hc, hf]
   exact f.any j hj
 · rw [hc, hc, hc, hc]
   exact f.got i hi hk
theorem QV.onlyP {w w' : World} {lo : Nat} {p : Nat → Prop} {v : Value} {xs : List Q4} (h : QV w lo v xs) (hb : OnlyP p w w') (hv : ∀ g, roomB v = some g → ¬ p g) : QV w' lo v xs := by
 rcases h.room with ⟨g, cap, rfl, h1, h2, f, hc⟩ | h
 · exact .inl ⟨g, _, rfl, h1, Nat.lt_of_lt_of_le h2 hb.size, f.onlyP hb h2 (hv g rfl), hc⟩
 · exact .inr h
theorem LV.onlyP {w w' : World} {lo : Nat} {p : Nat → Prop} {sT sO sP : Value} {T O P : List Q4} (h : LV w lo sT sO sP T O P) (hb : OnlyP p w w') (h1 : ∀ g, roomB sT = some g → ¬ p g) (h2 : ∀ g, roomB sO = some g → ¬ p g) (h3 : ∀ g, roomB sP = some g → ¬ p g) : LV w' lo sT sO sP T O P :=
 ⟨h.t.onlyP hb h1, h.o.onlyP hb h2, h.p.onlyP hb h3, h.to, h.tp, h.op⟩
/-- The blocks of three lists. -/
def inL (sT sO sP : Value) (k : Nat) : Prop := roomB sT = some k ∨ roomB sO = some k ∨ roomB sP = some k
theorem LV.lo {w : World} {lo : Nat} {sT sO sP : Value} {T O P : List Q4} (h : LV w lo sT sO sP T O P) {k : Nat} (hk : inL sT sO sP k) : lo ≤ k ∧ k < w.heap.size := by
 rcases hk with e | e | e
 · exact h.t.own e
 · exact h.o.own e
 · exact h.p.own e
theorem set_three {w : World} {g : Nat} {u0 u1 u2 : Value} (a b c : Value) (h0 : w.cell? ⟨g, 0, none⟩ = some u0) (h1 : w.cell? ⟨g, 1, none⟩ = some u1) (h2 : w.cell? ⟨g, 2, none⟩ = some u2) :
   ∀ j v, [a, b, c][j]? = some v → (((w.setCell ⟨g, 0, none⟩ a).setCell ⟨g, 1, none⟩ b).setCell ⟨g, 2, none⟩ c).cell? ⟨g, j, none⟩ = some v := by
 have other : ∀ (x : World) (i k : Nat) (v : Value), i ≠ k → (x.setCell ⟨g, i, none⟩ v).cell? ⟨g, k, none⟩ = x.cell? ⟨g, k, none⟩ := fun x i k v h => World.cell?_setCell_other _ _ _ _ (fun e => h (by injection e with _ e _))
 intro j v hv
 match j, hv with
 | 0, hv => obtain rfl : a = v := by simpa using hv
            exact (other _ 2 0 _ (by decide)).trans ((other _ 1 0 _ (by decide)).trans (set_same _ h0))
 | 1, hv => obtain rfl : b = v := by simpa using hv
            exact (other _ 2 1 _ (by decide)).trans (set_same _ ((other _ 0 1 _ (by decide)).trans h1))
 | 2, hv => obtain rfl : c = v := by simpa using hv
            exact set_same _ ((other _ 1 2 _ (by decide)).trans ((other _ 0 2 _ (by decide)).trans h2))
theorem markClassS_none (a : Option Addr) (k : Int) (w : World) (k0 : 0 ≤ k) (k1 : k ≤ 1000000000) :
   Calls Tryz.prog 108 #[.slice a 0 0, .int .i64 k] w fun e w' => e = .returned (.int .i64 k) ∧ w' = w := by
 go_enter Tryz.func108, Tryz.ntmps108
 go_wp2
 refine wp_loop_rounds 1 ?_
 rw [rounds_succ]
 go_wp2
 go_ret
 exact ⟨rfl, rfl⟩
theorem heldClassS_none (a : Option Addr) (k : Int) (w : World) (k0 : 0 ≤ k) (k1 : k ≤ 1000000000) :
   Calls Tryz.prog 111 #[.slice a 0 0, .int .i64 k] w fun e w' => e = .returned (.int .i64 k) ∧ w' = w := by
 go_enter Tryz.func111, Tryz.ntmps111
 go_wp2
 refine wp_loop_rounds 1 ?_
 rw [rounds_succ]
 go_wp2
 go_ret
 exact ⟨rfl, rfl⟩
theorem markClassS_v {w : World} {lo : Nat} {v : Value} {xs : List Q4} (k : Int) (f : QV w lo v xs) (hn : xs.length ≤ 1048576) (k0 : 0 ≤ k) (k1 : k ≤ 1000000000) :
   Calls Tryz.prog 108 #[v, .int .i64 k] w fun e w' => e = .returned (.int .i64 (k + 4 * (xs.length : Int))) ∧ QV w' lo v (marks4 k xs.length) ∧ OnlyO (roomB v) w w' := by
 rcases f.room with ⟨g, cap, rfl, h1, h2, f, hc⟩ | ⟨⟨a, rfl⟩, rfl⟩
 · refine (markClassS_any (cap + 1) k f h2 hn k0 k1).mono ?_
   rintro e w' ⟨rfl, f', ho⟩
   refine ⟨rfl, .inl ⟨g, cap + 1, by rw [marks4_length], h1, Nat.lt_of_lt_of_le h2 ho.size, ?_, by rw [marks4_length]; exact hc⟩, OnlyO.of_only ho⟩
   rw [marks4_length]
   exact f'
 · refine (markClassS_none a k w k0 k1).mono ?_
   rintro e w' ⟨rfl, rfl⟩
   refine ⟨by simp, .inr ⟨⟨a, rfl⟩, rfl⟩, ?_⟩
   rw [room_zero]
   exact OnlyO.of_below (Below.refl _ _)
theorem heldClassS_v {w : World} {lo n : Nat} {v : Value} (k : Int) (f : QV w lo v (marks4 k n)) (hn : n ≤ 1048576) (k0 : 0 ≤ k) (k1 : k ≤ 1000000000) :
   Calls Tryz.prog 111 #[v, .int .i64 k] w fun e w' => e = .returned (.int .i64 (k + 4 * (n : Int))) ∧ w' = w := by
 rcases f with ⟨g, cap, rfl, h1, h2, f, hc⟩ | ⟨⟨a, rfl⟩, hm⟩
 · rw [marks4_length] at f
   rw [marks4_length]
   exact heldClassS_any cap k f hn k0 k1
 · have hn0 : n = 0 := by rw [← marks4_length k n, hm]; rfl
   subst hn0
   refine (heldClassS_none a k w k0 k1).mono ?_
   rintro e w' ⟨rfl, rfl⟩
   exact ⟨by simp, rfl⟩
theorem markBucketS_none (a : Option Addr) (k : Int) (w : World) (k0 : 0 ≤ k) (k1 : k ≤ 1000000000) :
   Calls Tryz.prog 109 #[.slice a 0 0, .int .i64 k] w fun e w' => e = .returned (.int .i64 k) ∧ w' = w := by
 go_enter Tryz.func109, Tryz.ntmps109
 go_wp2
 refine wp_loop_rounds 1 ?_
 rw [rounds_succ]
 go_wp2
 go_ret
 exact ⟨rfl, rfl⟩
theorem heldBucketS_none (a : Option Addr) (k : Int) (w : World) (k0 : 0 ≤ k) (k1 : k ≤ 1000000000) :
   Calls Tryz.prog 112 #[.slice a 0 0, .int .i64 k] w fun e w' => e = .returned (.int .i64 k) ∧ w' = w := by
 go_enter Tryz.func112, Tryz.ntmps112
 go_wp2
 refine wp_loop_rounds 1 ?_
 rw [rounds_succ]
 go_wp2
 go_ret
 exact ⟨rfl, rfl⟩
theorem markBucketS_v {w : World} {lo : Nat} {v : Value} {xs : List Q4} (k : Int) (f : QV w lo v xs) (hn : xs.length ≤ 1048576) (k0 : 0 ≤ k) (k1 : k ≤ 1000000000) :
   Calls Tryz.prog 109 #[v, .int .i64 k] w fun e w' => e = .returned (.int .i64 (k + 4 * (xs.length : Int))) ∧ QV w' lo v (marks4 k xs.length) ∧ OnlyO (roomB v) w w' := by
 rcases f.room with ⟨g, cap, rfl, h1, h2, f, hc⟩ | ⟨⟨a, rfl⟩, rfl⟩
 · refine (markBucketS_any (cap + 1) k f h2 hn k0 k1).mono ?_
   rintro e w' ⟨rfl, f', ho⟩
   refine ⟨rfl, .inl ⟨g, cap + 1, by rw [marks4_length], h1, Nat.lt_of_lt_of_le h2 ho.size, ?_, by rw [marks4_length]; exact hc⟩, OnlyO.of_only ho⟩
   rw [marks4_length]
   exact f'
 · refine (markBucketS_none a k w k0 k1).mono ?_
   rintro e w' ⟨rfl, rfl⟩
   refine ⟨by simp, .inr ⟨⟨a, rfl⟩, rfl⟩, ?_⟩
   rw [room_zero]
   exact OnlyO.of_below (Below.refl _ _)
theorem heldBucketS_v {w : World} {lo n : Nat} {v : Value} (k : Int) (f : QV w lo v (marks4 k n)) (hn : n ≤ 1048576) (k0 : 0 ≤ k) (k1 : k ≤ 1000000000) :
   Calls Tryz.prog 112 #[v, .int .i64 k] w fun e w' => e = .returned (.int .i64 (k + 4 * (n : Int))) ∧ w' = w := by
 rcases f with ⟨g, cap, rfl, h1, h2, f, hc⟩ | ⟨⟨a, rfl⟩, hm⟩
 · rw [marks4_length] at f
   rw [marks4_length]
   exact heldBucketS_any cap k f hn k0 k1
 · have hn0 : n = 0 := by rw [← marks4_length k n, hm]; rfl
   subst hn0
   refine (heldBucketS_none a k w k0 k1).mono ?_
   rintro e w' ⟨rfl, rfl⟩
   exact ⟨by simp, rfl⟩
theorem apart_by {a b n m c d g : Nat} (h1 : roomB (.slice (some ⟨a, 0, none⟩) n c) = some g) (h2 : roomB (.slice (some ⟨b, 0, none⟩) m d) = some g) (h : a < b) : False := by
 cases c with
 | zero => cases h1
 | succ c =>
   cases d with
   | zero => cases h2
   | succ d =>
     have e1 : a = g := Option.some.inj h1
     have e2 : b = g := Option.some.inj h2
     omega
set_option maxHeartbeats 4000000 in
theorem toLend_any {w : World} {aT aO aP : Option Addr} (cT cO cP : Nat) {T O P : List Q4} (hT : Quad w.heap.size w aT T) (hO : Quad w.heap.size w aO O) (hP : Quad w.heap.size w aP P) (nT : T.length ≤ 1048576) (nO : O.length ≤ 1048576) (nP : P.length ≤ 1048576) :
   Calls Tryz.prog 32 #[lendV aT T.length cT aO O.length cO aP P.length cP] w fun e w' => ∃ gT gO gP, e = .returned (lendV (some ⟨gT, 0, none⟩) T.length T.length (some ⟨gO, 0, none⟩) O.length O.length (some ⟨gP, 0, none⟩) P.length P.length) ∧ LV w' w.heap.size (.slice (some ⟨gT, 0, none⟩) T.length T.length) (.slice (some ⟨gO, 0, none⟩) O.length O.length) (.slice (some ⟨gP, 0, none⟩) P.length P.length) T O P ∧ Below w.heap.size w w' := by
 have C0 : Hid (Kept w [(w.heap.size, 1, .slice aO O.length cO), (w.heap.size, 2, .slice aP P.length cP), (w.heap.size + 1, 0, .slice none 0 0), (w.heap.size + 1, 1, .slice none 0 0), (w.heap.size + 1, 2, .slice none 0 0), (w.heap.size + 2, 0, .slice none 0 0), (w.heap.size + 2, 1, .slice none 0 0), (w.heap.size + 2, 2, .slice none 0 0)] [w.heap.size + 1, w.heap.size + 2] (((w.alloc (.cells #[.slice aT T.length cT, .slice aO O.length cO, .slice aP P.length cP] 25)).alloc (.cells #[.slice none 0 0, .slice none 0 0, .slice none 0 0] 34)).alloc (.cells #[.slice none 0 0, .slice none 0 0, .slice none 0 0] 34))) :=
   ⟨⟨⟨by simp <;> omega, by go_simp⟩, ⟨by simp <;> omega, by go_simp⟩, ⟨by simp <;> omega, by go_simp⟩, ⟨by simp <;> omega, by go_simp⟩, ⟨by simp <;> omega, by go_simp⟩, ⟨by simp, by go_simp⟩, ⟨by simp, by go_simp⟩, ⟨by simp, by go_simp⟩, trivial⟩,
    (fun b hb => by simp only [List.mem_cons, List.not_mem_nil, or_false] at hb; rcases hb with rfl | rfl; exact ⟨by simp <;> omega, fun o => by go_simp⟩; exact ⟨by simp, fun o => by go_simp⟩), by go_grown⟩
 go_enter Tryz.func32, Tryz.ntmps32
 go_upto_region 3 with (go_at_call 72; refine (toClassS_any cT (hT.here C0.out.hb) nT).mono ?_; rintro e w2 ⟨gT, rfl, g0, g1, fT, hb2⟩; have K := C0.out.next hb2; have ⟨⟨z0, k0⟩, ⟨z1, k1⟩, ⟨z2, k2⟩, ⟨z3, k3⟩, ⟨z4, k4⟩, ⟨z5, k5⟩, ⟨z6, k6⟩, ⟨z7, k7⟩, _⟩ := K.cells; have fr1 := (K.free (w.heap.size + 1) (by simp)).2; have fr2 := (K.free (w.heap.size + 2) (by simp)).2; have KH : Hid (Kept w [(w.heap.size, 1, .slice aO O.length cO), (w.heap.size, 2, .slice aP P.length cP), (w.heap.size + 1, 0, .slice none 0 0), (w.heap.size + 1, 1, .slice none 0 0), (w.heap.size + 1, 2, .slice none 0 0), (w.heap.size + 2, 0, .slice none 0 0), (w.heap.size + 2, 1, .slice none 0 0), (w.heap.size + 2, 2, .slice none 0 0)] [w.heap.size + 1, w.heap.size + 2] w2) := K; clear K)
 simp only [World.size_alloc] at g0
 have K1 : Hid (Kept w [(w.heap.size, 1, .slice aO O.length cO), (w.heap.size, 2, .slice aP P.length cP), (w.heap.size + 1, 0, .slice none 0 0), (w.heap.size + 1, 1, .slice none 0 0), (w.heap.size + 1, 2, .slice none 0 0), (w.heap.size + 2, 0, .slice (some ⟨gT, 0, none⟩) T.length T.length), (w.heap.size + 2, 1, .slice none 0 0), (w.heap.size + 2, 2, .slice none 0 0)] [w.heap.size + 1, w.heap.size + 2] (w2.setCell ⟨w.heap.size + 2, 0, none⟩ (.slice (some ⟨gT, 0, none⟩) T.length T.length))) := (KH.out.put (w.heap.size + 2) 0 (.slice (some ⟨gT, 0, none⟩) T.length T.length) (by omega)).to (by simp [putIn] <;> omega)
 have f1 : QFill (w2.setCell ⟨w.heap.size + 2, 0, none⟩ (.slice (some ⟨gT, 0, none⟩) T.length T.length)) gT T.length T T.length := fT.far _ (by simp; omega)
 obtain ⟨v2, hv2⟩ : ∃ v2, w2.setCell ⟨w.heap.size + 2, 0, none⟩ (.slice (some ⟨gT, 0, none⟩) T.length T.length) = v2 := ⟨_, rfl⟩
 have hs2 : w2.heap.size = v2.heap.size := by rw [← hv2]; simp
 rw [hv2] at K1 f1 ⊢
 rw [hs2] at g1
 clear KH fT hv2 hb2 C0 hs2 k0 k1 k2 k3 k4 k5 k6 k7 z0 z1 z2 z3 z4 z5 z6 z7 fr1 fr2
 have K := K1.out
 have ⟨⟨z0, k0⟩, ⟨z1, k1⟩, ⟨z2, k2⟩, ⟨z3, k3⟩, ⟨z4, k4⟩, ⟨z5, k5⟩, ⟨z6, k6⟩, ⟨z7, k7⟩, _⟩ := K.cells
 have fr1 := (K.free (w.heap.size + 1) (by simp)).2
 have fr2 := (K.free (w.heap.size + 2) (by simp)).2
 clear K
 go_upto_region 4 with (go_at_call 73; refine (toBucketS_any cO (hO.here K1.out.hb) nO).mono ?_; rintro e w3 ⟨gO, rfl, g2, g3, fO, hb3⟩; have K := K1.out.next hb3; have ⟨⟨z0, k0⟩, ⟨z1, k1⟩, ⟨z2, k2⟩, ⟨z3, k3⟩, ⟨z4, k4⟩, ⟨z5, k5⟩, ⟨z6, k6⟩, ⟨z7, k7⟩, _⟩ := K.cells; have fr1 := (K.free (w.heap.size + 1) (by simp)).2; have fr2 := (K.free (w.heap.size + 2) (by simp)).2; have KH : Hid (Kept w [(w.heap.size, 1, .slice aO O.length cO), (w.heap.size, 2, .slice aP P.length cP), (w.heap.size + 1, 0, .slice none 0 0), (w.heap.size + 1, 1, .slice none 0 0), (w.heap.size + 1, 2, .slice none 0 0), (w.heap.size + 2, 0, .slice (some ⟨gT, 0, none⟩) T.length T.length), (w.heap.size + 2, 1, .slice none 0 0), (w.heap.size + 2, 2, .slice none 0 0)] [w.heap.size + 1, w.heap.size + 2] w3) := K; clear K; have f1 := f1.mono hb3 g1)
 have K2 : Hid (Kept w [(w.heap.size, 1, .slice aO O.length cO), (w.heap.size, 2, .slice aP P.length cP), (w.heap.size + 1, 0, .slice none 0 0), (w.heap.size + 1, 1, .slice none 0 0), (w.heap.size + 1, 2, .slice none 0 0), (w.heap.size + 2, 0, .slice (some ⟨gT, 0, none⟩) T.length T.length), (w.heap.size + 2, 1, .slice (some ⟨gO, 0, none⟩) O.length O.length), (w.heap.size + 2, 2, .slice none 0 0)] [w.heap.size + 1, w.heap.size + 2] (w3.setCell ⟨w.heap.size + 2, 1, none⟩ (.slice (some ⟨gO, 0, none⟩) O.length O.length))) := (KH.out.put (w.heap.size + 2) 1 (.slice (some ⟨gO, 0, none⟩) O.length O.length) (by omega)).to (by simp [putIn] <;> omega)
 have hsz3 := hb3.size
 have f1 : QFill (w3.setCell ⟨w.heap.size + 2, 1, none⟩ (.slice (some ⟨gO, 0, none⟩) O.length O.length)) gT T.length T T.length := f1.far _ (by simp; omega)
 have f2 : QFill (w3.setCell ⟨w.heap.size + 2, 1, none⟩ (.slice (some ⟨gO, 0, none⟩) O.length O.length)) gO O.length O O.length := fO.far _ (by simp; omega)
 obtain ⟨v3, hv3⟩ : ∃ v3, w3.setCell ⟨w.heap.size + 2, 1, none⟩ (.slice (some ⟨gO, 0, none⟩) O.length O.length) = v3 := ⟨_, rfl⟩
 have hs3 : w3.heap.size = v3.heap.size := by rw [← hv3]; simp
 rw [hv3] at K2 f1 f2 ⊢
 rw [hs3] at g3
 have g1' : gT < v3.heap.size := by omega
 clear KH fO hv3 hb3 K1 hs3 k0 k1 k2 k3 k4 k5 k6 k7 z0 z1 z2 z3 z4 z5 z6 z7 fr1 fr2
 have K := K2.out
 have ⟨⟨z0, k0⟩, ⟨z1, k1⟩, ⟨z2, k2⟩, ⟨z3, k3⟩, ⟨z4, k4⟩, ⟨z5, k5⟩, ⟨z6, k6⟩, ⟨z7, k7⟩, _⟩ := K.cells
 have fr1 := (K.free (w.heap.size + 1) (by simp)).2
 have fr2 := (K.free (w.heap.size + 2) (by simp)).2
 clear K
 go_upto_region 5 with (go_at_call 73; refine (toBucketS_any cP (hP.here K2.out.hb) nP).mono ?_; rintro e w4 ⟨gP, rfl, g4, g5, fP, hb4⟩; have K := K2.out.next hb4; have ⟨⟨z0, k0⟩, ⟨z1, k1⟩, ⟨z2, k2⟩, ⟨z3, k3⟩, ⟨z4, k4⟩, ⟨z5, k5⟩, ⟨z6, k6⟩, ⟨z7, k7⟩, _⟩ := K.cells; have fr1 := (K.free (w.heap.size + 1) (by simp)).2; have fr2 := (K.free (w.heap.size + 2) (by simp)).2; have KH : Hid (Kept w [(w.heap.size, 1, .slice aO O.length cO), (w.heap.size, 2, .slice aP P.length cP), (w.heap.size + 1, 0, .slice none 0 0), (w.heap.size + 1, 1, .slice none 0 0), (w.heap.size + 1, 2, .slice none 0 0), (w.heap.size + 2, 0, .slice (some ⟨gT, 0, none⟩) T.length T.length), (w.heap.size + 2, 1, .slice (some ⟨gO, 0, none⟩) O.length O.length), (w.heap.size + 2, 2, .slice none 0 0)] [w.heap.size + 1, w.heap.size + 2] w4) := K; clear K; have f1 := f1.mono hb4 g1'; have f2 := f2.mono hb4 g3)
 have K3 : Hid (Kept w [(w.heap.size, 1, .slice aO O.length cO), (w.heap.size, 2, .slice aP P.length cP), (w.heap.size + 1, 0, .slice none 0 0), (w.heap.size + 1, 1, .slice none 0 0), (w.heap.size + 1, 2, .slice none 0 0), (w.heap.size + 2, 0, .slice (some ⟨gT, 0, none⟩) T.length T.length), (w.heap.size + 2, 1, .slice (some ⟨gO, 0, none⟩) O.length O.length), (w.heap.size + 2, 2, .slice (some ⟨gP, 0, none⟩) P.length P.length)] [w.heap.size + 1, w.heap.size + 2] (w4.setCell ⟨w.heap.size + 2, 2, none⟩ (.slice (some ⟨gP, 0, none⟩) P.length P.length))) := (KH.out.put (w.heap.size + 2) 2 (.slice (some ⟨gP, 0, none⟩) P.length P.length) (by omega)).to (by simp [putIn] <;> omega)
 have hsz4 := hb4.size
 have f1 : QFill (w4.setCell ⟨w.heap.size + 2, 2, none⟩ (.slice (some ⟨gP, 0, none⟩) P.length P.length)) gT T.length T T.length := f1.far _ (by simp; omega)
 have f2 : QFill (w4.setCell ⟨w.heap.size + 2, 2, none⟩ (.slice (some ⟨gP, 0, none⟩) P.length P.length)) gO O.length O O.length := f2.far _ (by simp; omega)
 have f3 : QFill (w4.setCell ⟨w.heap.size + 2, 2, none⟩ (.slice (some ⟨gP, 0, none⟩) P.length P.length)) gP P.length P P.length := fP.far _ (by simp; omega)
 obtain ⟨v4, hv4⟩ : ∃ v4, w4.setCell ⟨w.heap.size + 2, 2, none⟩ (.slice (some ⟨gP, 0, none⟩) P.length P.length) = v4 := ⟨_, rfl⟩
 have hs4 : w4.heap.size = v4.heap.size := by rw [← hv4]; simp
 rw [hv4] at K3 f1 f2 f3 ⊢
 rw [hs4] at g5
 clear KH fP hv4 hb4 K2 k0 k1 k2 k3 k4 k5 k6 k7 z0 z1 z2 z3 z4 z5 z6 z7 fr1 fr2
 have K := K3.out
 have ⟨⟨z0, k0⟩, ⟨z1, k1⟩, ⟨z2, k2⟩, ⟨z3, k3⟩, ⟨z4, k4⟩, ⟨z5, k5⟩, ⟨z6, k6⟩, ⟨z7, k7⟩, _⟩ := K.cells
 have fr1 := (K.free (w.heap.size + 1) (by simp)).2
 have fr2 := (K.free (w.heap.size + 2) (by simp)).2
 clear K
 go_wp2
 refine bodyPost_ret (results_one rfl _ _ _ [.slice (some ⟨gT, 0, none⟩) T.length T.length, .slice (some ⟨gO, 0, none⟩) O.length O.length, .slice (some ⟨gP, 0, none⟩) P.length P.length] rfl (set_three (u0 := .slice none 0 0) (u1 := .slice none 0 0) (u2 := .slice none 0 0) _ _ _ k2 k3 k4) Tryz.underlying34 rfl (by kernel_rfl)) rfl ?_
 have hbf := K3.out.hb
 refine ⟨gT, gO, gP, rfl, ⟨?_, ?_, ?_, ?_, ?_, ?_⟩, ((hbf.setCell (by simp) _).setCell (by simp) _).setCell (by simp) _⟩
 · exact .inl ⟨gT, _, rfl, by omega, by simp; omega, ((f1.far _ (by simp; omega)).far _ (by simp; omega)).far _ (by simp; omega), Nat.le_refl _⟩
 · exact .inl ⟨gO, _, rfl, by omega, by simp; omega, ((f2.far _ (by simp; omega)).far _ (by simp; omega)).far _ (by simp; omega), Nat.le_refl _⟩
 · exact .inl ⟨gP, _, rfl, by omega, by simp; omega, ((f3.far _ (by simp; omega)).far _ (by simp; omega)).far _ (by simp; omega), Nat.le_refl _⟩
 · exact fun g h1 h2 => apart_by h1 h2 (by omega)
 · exact fun g h1 h2 => apart_by h1 h2 (by omega)
 · exact fun g h1 h2 => apart_by h1 h2 (by omega)
set_option maxHeartbeats 2000000 in
theorem markLend_any {w : World} {lo : Nat} {aT aO aP : Option Addr} {nT cT nO cO nP cP : Nat} {T O P : List Q4} (k : Int) (h : LV w lo (.slice aT nT cT) (.slice aO nO cO) (.slice aP nP cP) T O P) (hT : T.length ≤ 1048576) (hO : O.length ≤ 1048576) (hP : P.length ≤ 1048576) (k0 : 0 ≤ k) (k1 : k ≤ 100000000) :
   Calls Tryz.prog 45 #[lendV aT nT cT aO nO cO aP nP cP, .int .i64 k] w fun e w' => e = .returned (.int .i64 (k + 4 * (T.length : Int) + 4 * (O.length : Int) + 4 * (P.length : Int))) ∧
     LV w' lo (.slice aT nT cT) (.slice aO nO cO) (.slice aP nP cP) (marks4 k T.length) (marks4 (k + 4 * (T.length : Int)) O.length) (marks4 (k + 4 * (T.length : Int) + 4 * (O.length : Int)) P.length) ∧ OnlyP (inL (.slice aT nT cT) (.slice aO nO cO) (.slice aP nP cP)) w w' := by
 have nb : Below w.heap.size w (w.alloc (.cells #[.slice aT nT cT, .slice aO nO cO, .slice aP nP cP] 34)) := new_below _ _
 have c1 : (w.alloc (.cells #[.slice aT nT cT, .slice aO nO cO, .slice aP nP cP] 34)).cell? ⟨w.heap.size, 1, none⟩ = some (.slice aO nO cO) := by go_simp
 have c2 : (w.alloc (.cells #[.slice aT nT cT, .slice aO nO cO, .slice aP nP cP] 34)).cell? ⟨w.heap.size, 2, none⟩ = some (.slice aP nP cP) := by go_simp
 have H : Hid (LV w lo (.slice aT nT cT) (.slice aO nO cO) (.slice aP nP cP) T O P) := h
 have oT : ∀ g, roomB (.slice aT nT cT) = some g → g < w.heap.size := fun g hg => (h.t.own hg).2
 have oO : ∀ g, roomB (.slice aO nO cO) = some g → g < w.heap.size := fun g hg => (h.o.own hg).2
 have oP : ∀ g, roomB (.slice aP nP cP) = some g → g < w.heap.size := fun g hg => (h.p.own hg).2
 clear h
 have nT1 : roomB (.slice aT nT cT) ≠ some w.heap.size := fun e => by have := oT _ e; omega
 have nO1 : roomB (.slice aO nO cO) ≠ some w.heap.size := fun e => by have := oO _ e; omega
 have zb : w.heap.size < (w.alloc (.cells #[.slice aT nT cT, .slice aO nO cO, .slice aP nP cP] 34)).heap.size := by simp
 go_enter Tryz.func45, Tryz.ntmps45
 go_upto_region 2 with (go_at_call 108; refine (markClassS_v k (H.out.t.next nb) hT k0 (by omega)).mono ?_; rintro e w2 ⟨rfl, q1, o1⟩; have s1 := o1.size; have c1 := (o1.cell (p := ⟨w.heap.size, 1, none⟩) zb nT1).trans c1; have c2 := (o1.cell (p := ⟨w.heap.size, 2, none⟩) zb nT1).trans c2; have zb2 := Nat.lt_of_lt_of_le zb s1; have p1 := (OnlyP.of_below (p := fun _ => False) nb).trans (OnlyP.of o1); have q2 := (H.out.o.next nb).onlyO o1 (fun g hg e => H.out.to g e hg); have q3 := (H.out.p.next nb).onlyO o1 (fun g hg e => H.out.tp g e hg))
 (try simp only [World.size_alloc] at s1)
 go_upto_region 3 with (go_at_call 109; refine (markBucketS_v (k + 4 * (T.length : Int)) q2 hO (by omega) (by omega)).mono ?_; rintro e w3 ⟨rfl, q4, o2⟩; have s2 := o2.size; have c2 := (o2.cell (p := ⟨w.heap.size, 2, none⟩) zb2 nO1).trans c2; have p2 := p1.trans (OnlyP.of o2); have q1 := q1.onlyO o2 (fun g hg e => H.out.to g hg e); have q3 := q3.onlyO o2 (fun g hg e => H.out.op g e hg))
 go_wp2_with (go_at_call 109; refine (markBucketS_v (k + 4 * (T.length : Int) + 4 * (O.length : Int)) q3 hP (by omega) (by omega)).mono ?_; rintro e w4 ⟨rfl, q5, o3⟩; have p3 := p2.trans (OnlyP.of o3); have q1 := q1.onlyO o3 (fun g hg e => H.out.tp g hg e); have q4 := q4.onlyO o3 (fun g hg e => H.out.op g hg e))
 go_ret
 refine ⟨rfl, ⟨q1, q4, q5, H.out.to, H.out.tp, H.out.op⟩, p3.weak ?_⟩
 rintro b ((((h | h) | h)) | h)
 · cases h
 · exact .inl h
 · exact .inr (.inl h)
 · exact .inr (.inr h)
set_option maxHeartbeats 2000000 in
theorem heldLend_any {w : World} {lo nT' nO' nP' : Nat} {aT aO aP : Option Addr} {nT cT nO cO nP cP : Nat} (k : Int) (h : LV w lo (.slice aT nT cT) (.slice aO nO cO) (.slice aP nP cP) (marks4 k nT') (marks4 (k + 4 * (nT' : Int)) nO') (marks4 (k + 4 * (nT' : Int) + 4 * (nO' : Int)) nP')) (hT : nT' ≤ 1048576) (hO : nO' ≤ 1048576) (hP : nP' ≤ 1048576) (k0 : 0 ≤ k) (k1 : k ≤ 100000000) :
   Calls Tryz.prog 48 #[lendV aT nT cT aO nO cO aP nP cP, .int .i64 k] w fun e w' => e = .returned (.int .i64 (k + 4 * (nT' : Int) + 4 * (nO' : Int) + 4 * (nP' : Int))) ∧ Below w.heap.size w w' := by
 have nb : Below w.heap.size w (w.alloc (.cells #[.slice aT nT cT, .slice aO nO cO, .slice aP nP cP] 34)) := new_below _ _
 have H : Hid (LV w lo (.slice aT nT cT) (.slice aO nO cO) (.slice aP nP cP) (marks4 k nT') (marks4 (k + 4 * (nT' : Int)) nO') (marks4 (k + 4 * (nT' : Int) + 4 * (nO' : Int)) nP')) := h
 clear h
 have h1 : ¬ (k + 4 * (nT' : Int) < 0) := by omega
 have h2 : ¬ (k + 4 * (nT' : Int) + 4 * (nO' : Int) < 0) := by omega
 have h3 : ¬ (k + 4 * (nT' : Int) + 4 * (nO' : Int) + 4 * (nP' : Int) < 0) := by omega
 go_enter Tryz.func48, Tryz.ntmps48
 go_upto_region 4 with (go_at_call 111; refine (heldClassS_v k (H.out.t.next nb) hT k0 (by omega)).mono ?_; rintro e w2 ⟨rfl, rfl⟩)
 go_upto_region 7 with (go_at_call 112; refine (heldBucketS_v (k + 4 * (nT' : Int)) (H.out.o.next nb) hO (by omega) (by omega)).mono ?_; rintro e w3 ⟨rfl, rfl⟩)
 go_wp2_with (go_at_call 112; refine (heldBucketS_v (k + 4 * (nT' : Int) + 4 * (nO' : Int)) (H.out.p.next nb) hP (by omega) (by omega)).mono ?_; rintro e w4 ⟨rfl, rfl⟩)
 go_ret
 exact ⟨rfl, nb⟩
theorem own_noneQ (w : World) (b : Nat) (hb : b ≤ w.heap.size) (t : TypeId) : (w.alloc (.cells #[] t)).ownsRow b t 4 (.slice (some ⟨w.heap.size, 0, none⟩) 0 0) 0 [] :=
 ⟨rfl, .inr ⟨w.heap.size, 0, #[], rfl, hb, heap_alloc_new _ _, Nat.le_refl _, by unfold maxLen; omega, rfl, rfl⟩⟩
theorem quad_news {w : World} {b off : Nat} {xs : List Q4} (h : Quad w.heap.size w (some ⟨b, off, none⟩) xs) : ∀ j u, (flatQ xs)[j]? = some u → w.cell? ((⟨b, off, none⟩ : Addr).add j) = some u := by
 intro j u hu
 have hj : j < xs.length * 4 := by
   rcases Nat.lt_or_ge j (xs.length * 4) with k | k
   · exact k
   · rw [List.getElem?_eq_none (by rw [flatQ_length]; exact k)] at hu
     cases hu
 have hadd : (⟨b, off, none⟩ : Addr).add j = ⟨b, off + j, none⟩ := by unfold Addr.add; split <;> simp_all
 rw [hadd]
 obtain ⟨f0, f1, f2, f3⟩ := flatQ_get xs (j / 4) (by omega)
 obtain ⟨c0, c1, c2, c3⟩ := h.cells (Below.refl _ _) (j / 4) (by omega)
 have hm : j % 4 = 0 ∨ j % 4 = 1 ∨ j % 4 = 2 ∨ j % 4 = 3 := by omega
 rcases hm with e | e | e | e
 · rw [show j / 4 * 4 = j by omega] at f0 c0
   rw [f0] at hu
   rw [c0]
   exact hu
 · rw [show j / 4 * 4 + 1 = j by omega] at f1
   rw [show off + j / 4 * 4 + 1 = off + j by omega] at c1
   rw [f1] at hu
   rw [c1]
   exact hu
 · rw [show j / 4 * 4 + 2 = j by omega] at f2
   rw [show off + j / 4 * 4 + 2 = off + j by omega] at c2
   rw [f2] at hu
   rw [c2]
   exact hu
 · rw [show j / 4 * 4 + 3 = j by omega] at f3
   rw [show off + j / 4 * 4 + 3 = off + j by omega] at c3
   rw [f3] at hu
   rw [c3]
   exact hu
/-- What the copy keeps: what came in and the answer's place; three rows so far. -/
structure CpSt (w W : World) (sT sO sP v0 v4 v8 : Value) (X0 X4 X8 : List Q4) : Prop where
 kept : Kept w [(w.heap.size, 0, sT), (w.heap.size, 1, sO), (w.heap.size, 2, sP), (w.heap.size + 1, 0, .slice none 0 0), (w.heap.size + 1, 1, .slice none 0 0), (w.heap.size + 1, 2, .slice none 0 0)] [w.heap.size + 1] W
 r0 : W.ownsRow (w.heap.size + 2) 109 4 v0 X0.length (flatQ X0)
 r4 : W.ownsRow (w.heap.size + 2) 105 4 v4 X4.length (flatQ X4)
 r8 : W.ownsRow (w.heap.size + 2) 105 4 v8 X8.length (flatQ X8)
 ap : ∀ g, v4.ownBlock = some g → v8.ownBlock ≠ some g
 sz : w.heap.size + 2 ≤ W.heap.size
section
variable {w W : World} {sT sO sP v0 v4 v8 : Value} {X0 X4 X8 : List Q4}
theorem CpSt.drew (d : CpSt w W sT sO sP v0 v4 v8 X0 X4 X8) : CpSt w W.drew sT sO sP v0 v4 v8 X0 X4 X8 := ⟨d.kept.drew, row_next d.r0 (Below.refl _ _).drew, row_next d.r4 (Below.refl _ _).drew, row_next d.r8 (Below.refl _ _).drew, d.ap, d.sz⟩
theorem CpSt.alloc0 (d : CpSt w W sT sO sP v0 v4 v8 X0 X4 X8) : CpSt w (W.alloc (.cells #[] 109)) sT sO sP (.slice (some ⟨W.heap.size, 0, none⟩) 0 0) v4 v8 [] X4 X8 :=
 ⟨d.kept.next (new_below _ _), own_noneQ W _ d.sz _, d.r4.alloc _, d.r8.alloc _, d.ap, Nat.le_trans d.sz (by simp)⟩
theorem CpSt.alloc4 (d : CpSt w W sT sO sP v0 v4 v8 X0 X4 X8) : CpSt w (W.alloc (.cells #[] 105)) sT sO sP v0 (.slice (some ⟨W.heap.size, 0, none⟩) 0 0) v8 X0 [] X8 :=
 ⟨d.kept.next (new_below _ _), d.r0.alloc _, own_noneQ W _ d.sz _, d.r8.alloc _, fun g e h => by
   have e1 : W.heap.size = g := Option.some.inj e
   have := (d.r8.lt g h).2
   omega, Nat.le_trans d.sz (by simp)⟩
theorem CpSt.alloc8 (d : CpSt w W sT sO sP v0 v4 v8 X0 X4 X8) : CpSt w (W.alloc (.cells #[] 105)) sT sO sP v0 v4 (.slice (some ⟨W.heap.size, 0, none⟩) 0 0) X0 X4 [] :=
 ⟨d.kept.next (new_below _ _), d.r0.alloc _, d.r4.alloc _, own_noneQ W _ d.sz _, fun g e h => by
   have e1 : W.heap.size = g := Option.some.inj h
   have := (d.r4.lt g e).2
   omega, Nat.le_trans d.sz (by simp)⟩
theorem CpSt.keeps (d : CpSt w W sT sO sP v0 v4 v8 X0 X4 X8) {W' : World} {row : Option Nat} (hg : W.grownBy W' row) (hr : ∀ g, row = some g → w.heap.size + 2 ≤ g) : Kept w [(w.heap.size, 0, sT), (w.heap.size, 1, sO), (w.heap.size, 2, sP), (w.heap.size + 1, 0, .slice none 0 0), (w.heap.size + 1, 1, .slice none 0 0), (w.heap.size + 1, 2, .slice none 0 0)] [w.heap.size + 1] W' := by
 refine d.kept.onlyO (OnlyO.of_grown hg) (fun j e => by have := hr j e; omega) (fun c hc e => ?_) (fun b hb e => ?_)
 · have := hr _ e
   simp only [List.mem_cons, List.not_mem_nil, or_false] at hc
   rcases hc with rfl | rfl | rfl | rfl | rfl | rfl <;> simp only at this <;> omega
 · have := hr _ e
   simp only [List.mem_cons, List.not_mem_nil, or_false] at hb
   omega
theorem CpSt.app0 (d : CpSt w W sT sO sP v0 v4 v8 X0 X4 X8) {W' : World} {v' : Value} {X : List Q4} (hg : W.grownBy W' v0.ownBlock) (ho : W'.ownsRow (w.heap.size + 2) 109 4 v' X.length (flatQ X)) : CpSt w W' sT sO sP v' v4 v8 X X4 X8 :=
 ⟨d.keeps hg (fun g e => (d.r0.lt g e).1), ho, d.r4.kept hg (rows_keep d.r4 d.r0 (by decide)), d.r8.kept hg (rows_keep d.r8 d.r0 (by decide)), d.ap, Nat.le_trans d.sz hg.size⟩
theorem CpSt.app4 (d : CpSt w W sT sO sP v0 v4 v8 X0 X4 X8) {W' : World} {v' : Value} {X : List Q4} (hg : W.grownBy W' v4.ownBlock) (ho : W'.ownsRow (w.heap.size + 2) 105 4 v' X.length (flatQ X)) (hb : v'.ownBlock = v4.ownBlock ∨ v'.ownBlock = some W.heap.size) : CpSt w W' sT sO sP v0 v' v8 X0 X X8 :=
 ⟨d.keeps hg (fun g e => (d.r4.lt g e).1), d.r0.kept hg (rows_keep d.r0 d.r4 (by decide)), ho, d.r8.kept hg (by
   cases h : v8.ownBlock with
   | none => exact .inl rfl
   | some g => exact .inr (fun e => d.ap g e.symm h)), fun g e h => by
   rcases hb with k | k
   · rw [k] at e
     exact d.ap g e h
   · rw [k] at e
     have e1 : W.heap.size = g := Option.some.inj e
     have := (d.r8.lt g h).2
     omega, Nat.le_trans d.sz hg.size⟩
theorem CpSt.app8 (d : CpSt w W sT sO sP v0 v4 v8 X0 X4 X8) {W' : World} {v' : Value} {X : List Q4} (hg : W.grownBy W' v8.ownBlock) (ho : W'.ownsRow (w.heap.size + 2) 105 4 v' X.length (flatQ X)) (hb : v'.ownBlock = v8.ownBlock ∨ v'.ownBlock = some W.heap.size) : CpSt w W' sT sO sP v0 v4 v' X0 X4 X :=
 ⟨d.keeps hg (fun g e => (d.r8.lt g e).1), d.r0.kept hg (rows_keep d.r0 d.r8 (by decide)), d.r4.kept hg (by
   cases h : v4.ownBlock with
   | none => exact .inl rfl
   | some g => exact .inr (fun e => d.ap g h e.symm)), ho, fun g e h => by
   rcases hb with k | k
   · rw [k] at h
     exact d.ap g e h
   · rw [k] at h
     have e1 : W.heap.size = g := Option.some.inj h
     have := (d.r4.lt g e).2
     omega, Nat.le_trans d.sz hg.size⟩
theorem CpSt.S (d : CpSt w W sT sO sP v0 v4 v8 X0 X4 X8) : W.cell? ⟨w.heap.size, 0, none⟩ = some sT ∧ W.cell? ⟨w.heap.size, 1, none⟩ = some sO ∧ W.cell? ⟨w.heap.size, 2, none⟩ = some sP := by
 obtain ⟨⟨_, k0⟩, ⟨_, k1⟩, ⟨_, k2⟩, _⟩ := d.kept.cells
 exact ⟨k0, k1, k2⟩
end
/-- Three lists in blocks of their own: an answer. -/
def CpPost (w : World) (T O P : List Q4) (e : Ending) (w' : World) : Prop := ∃ gT cT gO cO gP cP, e = .returned (lendV (some ⟨gT, 0, none⟩) T.length cT (some ⟨gO, 0, none⟩) O.length cO (some ⟨gP, 0, none⟩) P.length cP) ∧
  w'.ownsRow w.heap.size 109 4 (.slice (some ⟨gT, 0, none⟩) T.length cT) T.length (flatQ T) ∧ w'.ownsRow w.heap.size 105 4 (.slice (some ⟨gO, 0, none⟩) O.length cO) O.length (flatQ O) ∧
  w'.ownsRow w.heap.size 105 4 (.slice (some ⟨gP, 0, none⟩) P.length cP) P.length (flatQ P) ∧ gO ≠ gP ∧ Below w.heap.size w w'
theorem row_lowC {w : World} {b b' : Nat} {e : TypeId} {s n : Nat} {v : Value} {xs : List Value} (h : w.ownsRow b e s v n xs) (hb : b' ≤ b) : w.ownsRow b' e s v n xs :=
 ⟨h.1, by
   rcases h.2 with k | ⟨g, cap, cur, h1, h2, h3⟩
   · exact .inl k
   · exact .inr ⟨g, cap, cur, h1, by omega, h3⟩⟩
theorem own_someC {w : World} {base : Nat} {e : TypeId} {s n : Nat} {v : Value} {xs : List Value} (h : w.ownsRow base e s v n xs) (hn : 1 ≤ n) : ∃ g cap, v = .slice (some ⟨g, 0, none⟩) n cap ∧ base ≤ g ∧ g < w.heap.size := by
 rcases h.2 with ⟨rfl, h0⟩ | ⟨g, cap, cur, rfl, hb, _⟩
 · omega
 · exact ⟨g, cap, rfl, hb, (h.lt g rfl).2⟩
theorem cp_fin {w W : World} {sT sO sP : Value} {g3 k3 g7 k7 g11 k11 : Nat} {T O P : List Q4} (d : CpSt w W sT sO sP (.slice (some ⟨g3, 0, none⟩) T.length k3) (.slice (some ⟨g7, 0, none⟩) O.length k7) (.slice (some ⟨g11, 0, none⟩) P.length k11) T O P) {a b c : Value} :
   CpPost w T O P (.returned (lendV (some ⟨g3, 0, none⟩) T.length k3 (some ⟨g7, 0, none⟩) O.length k7 (some ⟨g11, 0, none⟩) P.length k11)) (((W.setCell ⟨w.heap.size + 1, 0, none⟩ a).setCell ⟨w.heap.size + 1, 1, none⟩ b).setCell ⟨w.heap.size + 1, 2, none⟩ c) :=
 ⟨g3, k3, g7, k7, g11, k11, rfl, row_lowC (row_set (row_set (row_set d.r0 (by omega)) (by omega)) (by omega)) (by omega), row_lowC (row_set (row_set (row_set d.r4 (by omega)) (by omega)) (by omega)) (by omega), row_lowC (row_set (row_set (row_set d.r8 (by omega)) (by omega)) (by omega)) (by omega),
   fun e => d.ap g7 rfl (by rw [e]; rfl), ((d.kept.hb.setCell (by simp) _).setCell (by simp) _).setCell (by simp) _⟩
set_option maxHeartbeats 16000000 in
theorem l7Copy_any {w : World} {aT aO aP : Option Addr} (cT cO cP : Nat) {T O P : List Q4} (hT : Quad w.heap.size w aT T) (hO : Quad w.heap.size w aO O) (hP : Quad w.heap.size w aP P) (nT : 1 ≤ T.length ∧ T.length ≤ 30) (nO : 1 ≤ O.length ∧ O.length ≤ 30) (nP : 1 ≤ P.length ∧ P.length ≤ 30) :
   Calls Tryz.prog 70 #[lendV aT T.length cT aO O.length cO aP P.length cP] w (CpPost w T O P) := by
 obtain ⟨iC, hiC, zC0, zC1, zC2⟩ := info_parts info_class
 obtain ⟨iB, hiB, zB0, zB1, zB2⟩ := info_parts info_bucket
 obtain ⟨bT, oT, rfl, _⟩ := hT 0 (by omega)
 obtain ⟨bO, oO, rfl, _⟩ := hO 0 (by omega)
 obtain ⟨bP, oP, rfl, _⟩ := hP 0 (by omega)
 have D : Hid (CpSt w ((w.alloc (.cells #[.slice (some ⟨bT, oT, none⟩) T.length cT, .slice (some ⟨bO, oO, none⟩) O.length cO, .slice (some ⟨bP, oP, none⟩) P.length cP] 34)).alloc (.cells #[.slice none 0 0, .slice none 0 0, .slice none 0 0] 34)) (.slice (some ⟨bT, oT, none⟩) T.length cT) (.slice (some ⟨bO, oO, none⟩) O.length cO) (.slice (some ⟨bP, oP, none⟩) P.length cP) (.slice none 0 0) (.slice none 0 0) (.slice none 0 0) [] [] []) :=
   ⟨⟨⟨⟨by simp <;> omega, by go_simp⟩, ⟨by simp <;> omega, by go_simp⟩, ⟨by simp <;> omega, by go_simp⟩, ⟨by simp, by go_simp⟩, ⟨by simp, by go_simp⟩, ⟨by simp, by go_simp⟩, trivial⟩,
     (fun b hb => by simp only [List.mem_cons, List.not_mem_nil, or_false] at hb; subst hb; exact ⟨by simp, fun o => by go_simp⟩), by go_grown⟩,
    World.ownsRow_nil _ _ _ _, World.ownsRow_nil _ _ _ _, World.ownsRow_nil _ _ _ _, (fun g e => by cases e), by simp⟩
 go_enter Tryz.func70, Tryz.ntmps70
 go_wp2
 obtain ⟨W, hW⟩ : ∃ W, (w.alloc (.cells #[.slice (some ⟨bT, oT, none⟩) T.length cT, .slice (some ⟨bO, oO, none⟩) O.length cO, .slice (some ⟨bP, oP, none⟩) P.length cP] 34)).alloc (.cells #[.slice none 0 0, .slice none 0 0, .slice none 0 0] 34) = W := ⟨_, rfl⟩
 rw [hW] at D ⊢
 clear hW
 have D : Hid _ := D.out.drew
 refine wp_region_held_drew (S := fun w' => w'.cell? ⟨w.heap.size, 0, none⟩ = some (.slice (some ⟨bT, oT, none⟩) T.length cT) ∧ w'.cell? ⟨w.heap.size, 1, none⟩ = some (.slice (some ⟨bO, oO, none⟩) O.length cO) ∧ w'.cell? ⟨w.heap.size, 2, none⟩ = some (.slice (some ⟨bP, oP, none⟩) P.length cP)) (by kernel_rfl) (D.out.S) (fun hS => ?_)
 obtain ⟨x0, hx⟩ : ∃ x, W.drew = x := ⟨_, rfl⟩
 rw [hx] at D hS ⊢
 clear hx
 refine anyR 1 rfl ?_
 refine anyR 2 rfl ?_
 refine anyR 5 rfl ?_
 refine anyR 6 rfl ?_
 refine anyR 9 rfl ?_
 refine anyR 10 rfl ?_
 refine wpAnyH_ready (rs := [0, 4, 8]) (by kernel_rfl) (by simp) (AllReadyH.cons rfl (fun K hK => ?_) (AllReadyH.cons rfl (fun K hK => ?_) (AllReadyH.cons rfl (fun K hK => ?_) AllReadyH.nil)))
 · go_simp
   have D : Hid _ := D.out.alloc0
   obtain ⟨x1, hx⟩ : ∃ x, x0.alloc (.cells #[] 109) = x := ⟨_, rfl⟩
   rw [hx] at D ⊢
   clear hx
   refine hK.out _ _ D.out.S (fun hS => ?_)
   try simp only [nrm]
   refine wpAnyH_ready (rs := [3, 4, 8]) (by kernel_rfl) (by simp) (AllReadyH.cons rfl (fun K hK => ?_) (AllReadyH.cons rfl (fun K hK => ?_) (AllReadyH.cons rfl (fun K hK => ?_) AllReadyH.nil)))
   · rw [if_pos (by rfl)]
     refine wp_append_two _ _ _ 31 rfl (w.heap.size + 2) 109 iC _ 4 32 Tryz.underlying31 hiC zC0 zC1 zC2 rfl (by decide) _ _ _ rfl D.out.r0 ⟨bT, oT, none⟩ T.length cT (flatQ T) rfl (flatQ_length T) (quad_news (hT.here D.out.kept.hb)) (flatQ_cell T) (by rw [List.length_nil]; unfold maxLen; omega) (by rw [List.length_nil]; omega) D.out.sz (by omega) ?_
     intro vn x2 ho hgr hbl
     rw [List.length_nil, Nat.zero_add, show flatQ [] ++ flatQ T = flatQ T from rfl] at ho
     obtain ⟨g3, k3, rfl, _, _⟩ := own_someC ho nT.1
     have D : Hid _ := D.out.app0 hgr ho
     clear ho hgr hbl
     refine hK.out _ _ D.out.S (fun hS => ?_)
     try simp only [nrm]
     refine wpAnyH_ready (rs := [4, 8]) (by kernel_rfl) (by simp) (AllReadyH.cons rfl (fun K hK => ?_) (AllReadyH.cons rfl (fun K hK => ?_) AllReadyH.nil))
     · go_simp
       have D : Hid _ := D.out.alloc4
       obtain ⟨x3, hx⟩ : ∃ x, x2.alloc (.cells #[] 105) = x := ⟨_, rfl⟩
       rw [hx] at D ⊢
       clear hx
       refine hK.out _ _ D.out.S (fun hS => ?_)
       try simp only [nrm]
       refine wpAnyH_ready (rs := [7, 8]) (by kernel_rfl) (by simp) (AllReadyH.cons rfl (fun K hK => ?_) (AllReadyH.cons rfl (fun K hK => ?_) AllReadyH.nil))
       · rw [if_pos (by rfl)]
         refine wp_append_two _ _ _ 32 rfl (w.heap.size + 2) 105 iB _ 4 32 Tryz.underlying32 hiB zB0 zB1 zB2 rfl (by decide) _ _ _ rfl D.out.r4 ⟨bO, oO, none⟩ O.length cO (flatQ O) rfl (flatQ_length O) (quad_news (hO.here D.out.kept.hb)) (flatQ_cell O) (by rw [List.length_nil]; unfold maxLen; omega) (by rw [List.length_nil]; omega) D.out.sz (by omega) ?_
         intro vn x4 ho hgr hbl
         rw [List.length_nil, Nat.zero_add, show flatQ [] ++ flatQ O = flatQ O from rfl] at ho
         obtain ⟨g7, k7, rfl, _, _⟩ := own_someC ho nO.1
         have D : Hid _ := D.out.app4 hgr ho hbl
         clear ho hgr hbl
         refine hK.out _ _ D.out.S (fun hS => ?_)
         try simp only [nrm]
         refine anyC 8 rfl fun K hK => ?_
         · go_simp
           have D : Hid _ := D.out.alloc8
           obtain ⟨x5, hx⟩ : ∃ x, x4.alloc (.cells #[] 105) = x := ⟨_, rfl⟩
           rw [hx] at D ⊢
           clear hx
           refine hK.out _ _ D.out.S (fun hS => ?_)
           try simp only [nrm]
           refine anyC 11 rfl fun K hK => ?_
           · rw [if_pos (by rfl)]
             refine wp_append_two _ _ _ 32 rfl (w.heap.size + 2) 105 iB _ 4 32 Tryz.underlying32 hiB zB0 zB1 zB2 rfl (by decide) _ _ _ rfl D.out.r8 ⟨bP, oP, none⟩ P.length cP (flatQ P) rfl (flatQ_length P) (quad_news (hP.here D.out.kept.hb)) (flatQ_cell P) (by rw [List.length_nil]; unfold maxLen; omega) (by rw [List.length_nil]; omega) D.out.sz (by omega) ?_
             intro vn x6 ho hgr hbl
             rw [List.length_nil, Nat.zero_add, show flatQ [] ++ flatQ P = flatQ P from rfl] at ho
             obtain ⟨g11, k11, rfl, _, _⟩ := own_someC ho nP.1
             have D : Hid _ := D.out.app8 hgr ho hbl
             clear ho hgr hbl
             refine hK.out _ _ D.out.S (fun hS => ?_)
             try simp only [nrm]
             refine anyR 12 rfl ?_
             have ⟨⟨_, q0⟩, ⟨_, q1⟩, ⟨_, q2⟩, ⟨_, q3⟩, ⟨_, q4⟩, ⟨_, q5⟩, _⟩ := D.out.kept.cells
             have fr := (D.out.kept.free (w.heap.size + 1) (List.mem_singleton.2 rfl)).2
             refine anyC 13 rfl fun K hK => ?_
             go_simp
             refine hK.out _ _ ⟨(set_far (by simp)).trans ((set_far (by simp)).trans ((set_far (by simp)).trans q0)), (set_far (by simp)).trans ((set_far (by simp)).trans ((set_far (by simp)).trans q1)), (set_far (by simp)).trans ((set_far (by simp)).trans ((set_far (by simp)).trans q2))⟩ (fun _ => ?_)
             try simp only [nrm]
             refine wpAnyH_done (by kernel_rfl) ?_ _
             go_wp2
             refine bodyPost_ret (results_one rfl _ _ _ [.slice (some ⟨g3, 0, none⟩) T.length k3, .slice (some ⟨g7, 0, none⟩) O.length k7, .slice (some ⟨g11, 0, none⟩) P.length k11] rfl (set_three (u0 := .slice none 0 0) (u1 := .slice none 0 0) (u2 := .slice none 0 0) _ _ _ q3 q4 q5) Tryz.underlying34 rfl (by kernel_rfl)) rfl ?_
             exact cp_fin D.out
       · go_simp
         have D : Hid _ := D.out.alloc8
         obtain ⟨x4, hx⟩ : ∃ x, x3.alloc (.cells #[] 105) = x := ⟨_, rfl⟩
         rw [hx] at D ⊢
         clear hx
         refine hK.out _ _ D.out.S (fun hS => ?_)
         try simp only [nrm]
         refine anyC 7 rfl fun K hK => ?_
         · rw [if_pos (by rfl)]
           refine wp_append_two _ _ _ 32 rfl (w.heap.size + 2) 105 iB _ 4 32 Tryz.underlying32 hiB zB0 zB1 zB2 rfl (by decide) _ _ _ rfl D.out.r4 ⟨bO, oO, none⟩ O.length cO (flatQ O) rfl (flatQ_length O) (quad_news (hO.here D.out.kept.hb)) (flatQ_cell O) (by rw [List.length_nil]; unfold maxLen; omega) (by rw [List.length_nil]; omega) D.out.sz (by omega) ?_
           intro vn x5 ho hgr hbl
           rw [List.length_nil, Nat.zero_add, show flatQ [] ++ flatQ O = flatQ O from rfl] at ho
           obtain ⟨g7, k7, rfl, _, _⟩ := own_someC ho nO.1
           have D : Hid _ := D.out.app4 hgr ho hbl
           clear ho hgr hbl
           refine hK.out _ _ D.out.S (fun hS => ?_)
           try simp only [nrm]
           refine anyC 11 rfl fun K hK => ?_
           · rw [if_pos (by rfl)]
             refine wp_append_two _ _ _ 32 rfl (w.heap.size + 2) 105 iB _ 4 32 Tryz.underlying32 hiB zB0 zB1 zB2 rfl (by decide) _ _ _ rfl D.out.r8 ⟨bP, oP, none⟩ P.length cP (flatQ P) rfl (flatQ_length P) (quad_news (hP.here D.out.kept.hb)) (flatQ_cell P) (by rw [List.length_nil]; unfold maxLen; omega) (by rw [List.length_nil]; omega) D.out.sz (by omega) ?_
             intro vn x6 ho hgr hbl
             rw [List.length_nil, Nat.zero_add, show flatQ [] ++ flatQ P = flatQ P from rfl] at ho
             obtain ⟨g11, k11, rfl, _, _⟩ := own_someC ho nP.1
             have D : Hid _ := D.out.app8 hgr ho hbl
             clear ho hgr hbl
             refine hK.out _ _ D.out.S (fun hS => ?_)
             try simp only [nrm]
             refine anyR 12 rfl ?_
             have ⟨⟨_, q0⟩, ⟨_, q1⟩, ⟨_, q2⟩, ⟨_, q3⟩, ⟨_, q4⟩, ⟨_, q5⟩, _⟩ := D.out.kept.cells
             have fr := (D.out.kept.free (w.heap.size + 1) (List.mem_singleton.2 rfl)).2
             refine anyC 13 rfl fun K hK => ?_
             go_simp
             refine hK.out _ _ ⟨(set_far (by simp)).trans ((set_far (by simp)).trans ((set_far (by simp)).trans q0)), (set_far (by simp)).trans ((set_far (by simp)).trans ((set_far (by simp)).trans q1)), (set_far (by simp)).trans ((set_far (by simp)).trans ((set_far (by simp)).trans q2))⟩ (fun _ => ?_)
             try simp only [nrm]
             refine wpAnyH_done (by kernel_rfl) ?_ _
             go_wp2
             refine bodyPost_ret (results_one rfl _ _ _ [.slice (some ⟨g3, 0, none⟩) T.length k3, .slice (some ⟨g7, 0, none⟩) O.length k7, .slice (some ⟨g11, 0, none⟩) P.length k11] rfl (set_three (u0 := .slice none 0 0) (u1 := .slice none 0 0) (u2 := .slice none 0 0) _ _ _ q3 q4 q5) Tryz.underlying34 rfl (by kernel_rfl)) rfl ?_
             exact cp_fin D.out
     · go_simp
       have D : Hid _ := D.out.alloc8
       obtain ⟨x3, hx⟩ : ∃ x, x2.alloc (.cells #[] 105) = x := ⟨_, rfl⟩
       rw [hx] at D ⊢
       clear hx
       refine hK.out _ _ D.out.S (fun hS => ?_)
       try simp only [nrm]
       refine anyC 4 rfl fun K hK => ?_
       · go_simp
         have D : Hid _ := D.out.alloc4
         obtain ⟨x4, hx⟩ : ∃ x, x3.alloc (.cells #[] 105) = x := ⟨_, rfl⟩
         rw [hx] at D ⊢
         clear hx
         refine hK.out _ _ D.out.S (fun hS => ?_)
         try simp only [nrm]
         refine anyC 7 rfl fun K hK => ?_
         · rw [if_pos (by rfl)]
           refine wp_append_two _ _ _ 32 rfl (w.heap.size + 2) 105 iB _ 4 32 Tryz.underlying32 hiB zB0 zB1 zB2 rfl (by decide) _ _ _ rfl D.out.r4 ⟨bO, oO, none⟩ O.length cO (flatQ O) rfl (flatQ_length O) (quad_news (hO.here D.out.kept.hb)) (flatQ_cell O) (by rw [List.length_nil]; unfold maxLen; omega) (by rw [List.length_nil]; omega) D.out.sz (by omega) ?_
           intro vn x5 ho hgr hbl
           rw [List.length_nil, Nat.zero_add, show flatQ [] ++ flatQ O = flatQ O from rfl] at ho
           obtain ⟨g7, k7, rfl, _, _⟩ := own_someC ho nO.1
           have D : Hid _ := D.out.app4 hgr ho hbl
           clear ho hgr hbl
           refine hK.out _ _ D.out.S (fun hS => ?_)
           try simp only [nrm]
           refine anyC 11 rfl fun K hK => ?_
           · rw [if_pos (by rfl)]
             refine wp_append_two _ _ _ 32 rfl (w.heap.size + 2) 105 iB _ 4 32 Tryz.underlying32 hiB zB0 zB1 zB2 rfl (by decide) _ _ _ rfl D.out.r8 ⟨bP, oP, none⟩ P.length cP (flatQ P) rfl (flatQ_length P) (quad_news (hP.here D.out.kept.hb)) (flatQ_cell P) (by rw [List.length_nil]; unfold maxLen; omega) (by rw [List.length_nil]; omega) D.out.sz (by omega) ?_
             intro vn x6 ho hgr hbl
             rw [List.length_nil, Nat.zero_add, show flatQ [] ++ flatQ P = flatQ P from rfl] at ho
             obtain ⟨g11, k11, rfl, _, _⟩ := own_someC ho nP.1
             have D : Hid _ := D.out.app8 hgr ho hbl
             clear ho hgr hbl
             refine hK.out _ _ D.out.S (fun hS => ?_)
             try simp only [nrm]
             refine anyR 12 rfl ?_
             have ⟨⟨_, q0⟩, ⟨_, q1⟩, ⟨_, q2⟩, ⟨_, q3⟩, ⟨_, q4⟩, ⟨_, q5⟩, _⟩ := D.out.kept.cells
             have fr := (D.out.kept.free (w.heap.size + 1) (List.mem_singleton.2 rfl)).2
             refine anyC 13 rfl fun K hK => ?_
             go_simp
             refine hK.out _ _ ⟨(set_far (by simp)).trans ((set_far (by simp)).trans ((set_far (by simp)).trans q0)), (set_far (by simp)).trans ((set_far (by simp)).trans ((set_far (by simp)).trans q1)), (set_far (by simp)).trans ((set_far (by simp)).trans ((set_far (by simp)).trans q2))⟩ (fun _ => ?_)
             try simp only [nrm]
             refine wpAnyH_done (by kernel_rfl) ?_ _
             go_wp2
             refine bodyPost_ret (results_one rfl _ _ _ [.slice (some ⟨g3, 0, none⟩) T.length k3, .slice (some ⟨g7, 0, none⟩) O.length k7, .slice (some ⟨g11, 0, none⟩) P.length k11] rfl (set_three (u0 := .slice none 0 0) (u1 := .slice none 0 0) (u2 := .slice none 0 0) _ _ _ q3 q4 q5) Tryz.underlying34 rfl (by kernel_rfl)) rfl ?_
             exact cp_fin D.out
   · go_simp
     have D : Hid _ := D.out.alloc4
     obtain ⟨x2, hx⟩ : ∃ x, x1.alloc (.cells #[] 105) = x := ⟨_, rfl⟩
     rw [hx] at D ⊢
     clear hx
     refine hK.out _ _ D.out.S (fun hS => ?_)
     try simp only [nrm]
     refine wpAnyH_ready (rs := [3, 8]) (by kernel_rfl) (by simp) (AllReadyH.cons rfl (fun K hK => ?_) (AllReadyH.cons rfl (fun K hK => ?_) AllReadyH.nil))
     · rw [if_pos (by rfl)]
       refine wp_append_two _ _ _ 31 rfl (w.heap.size + 2) 109 iC _ 4 32 Tryz.underlying31 hiC zC0 zC1 zC2 rfl (by decide) _ _ _ rfl D.out.r0 ⟨bT, oT, none⟩ T.length cT (flatQ T) rfl (flatQ_length T) (quad_news (hT.here D.out.kept.hb)) (flatQ_cell T) (by rw [List.length_nil]; unfold maxLen; omega) (by rw [List.length_nil]; omega) D.out.sz (by omega) ?_
       intro vn x3 ho hgr hbl
       rw [List.length_nil, Nat.zero_add, show flatQ [] ++ flatQ T = flatQ T from rfl] at ho
       obtain ⟨g3, k3, rfl, _, _⟩ := own_someC ho nT.1
       have D : Hid _ := D.out.app0 hgr ho
       clear ho hgr hbl
       refine hK.out _ _ D.out.S (fun hS => ?_)
       try simp only [nrm]
       refine wpAnyH_ready (rs := [7, 8]) (by kernel_rfl) (by simp) (AllReadyH.cons rfl (fun K hK => ?_) (AllReadyH.cons rfl (fun K hK => ?_) AllReadyH.nil))
       · rw [if_pos (by rfl)]
         refine wp_append_two _ _ _ 32 rfl (w.heap.size + 2) 105 iB _ 4 32 Tryz.underlying32 hiB zB0 zB1 zB2 rfl (by decide) _ _ _ rfl D.out.r4 ⟨bO, oO, none⟩ O.length cO (flatQ O) rfl (flatQ_length O) (quad_news (hO.here D.out.kept.hb)) (flatQ_cell O) (by rw [List.length_nil]; unfold maxLen; omega) (by rw [List.length_nil]; omega) D.out.sz (by omega) ?_
         intro vn x4 ho hgr hbl
         rw [List.length_nil, Nat.zero_add, show flatQ [] ++ flatQ O = flatQ O from rfl] at ho
         obtain ⟨g7, k7, rfl, _, _⟩ := own_someC ho nO.1
         have D : Hid _ := D.out.app4 hgr ho hbl
         clear ho hgr hbl
         refine hK.out _ _ D.out.S (fun hS => ?_)
         try simp only [nrm]
         refine anyC 8 rfl fun K hK => ?_
         · go_simp
           have D : Hid _ := D.out.alloc8
           obtain ⟨x5, hx⟩ : ∃ x, x4.alloc (.cells #[] 105) = x := ⟨_, rfl⟩
           rw [hx] at D ⊢
           clear hx
           refine hK.out _ _ D.out.S (fun hS => ?_)
           try simp only [nrm]
           refine anyC 11 rfl fun K hK => ?_
           · rw [if_pos (by rfl)]
             refine wp_append_two _ _ _ 32 rfl (w.heap.size + 2) 105 iB _ 4 32 Tryz.underlying32 hiB zB0 zB1 zB2 rfl (by decide) _ _ _ rfl D.out.r8 ⟨bP, oP, none⟩ P.length cP (flatQ P) rfl (flatQ_length P) (quad_news (hP.here D.out.kept.hb)) (flatQ_cell P) (by rw [List.length_nil]; unfold maxLen; omega) (by rw [List.length_nil]; omega) D.out.sz (by omega) ?_
             intro vn x6 ho hgr hbl
             rw [List.length_nil, Nat.zero_add, show flatQ [] ++ flatQ P = flatQ P from rfl] at ho
             obtain ⟨g11, k11, rfl, _, _⟩ := own_someC ho nP.1
             have D : Hid _ := D.out.app8 hgr ho hbl
             clear ho hgr hbl
             refine hK.out _ _ D.out.S (fun hS => ?_)
             try simp only [nrm]
             refine anyR 12 rfl ?_
             have ⟨⟨_, q0⟩, ⟨_, q1⟩, ⟨_, q2⟩, ⟨_, q3⟩, ⟨_, q4⟩, ⟨_, q5⟩, _⟩ := D.out.kept.cells
             have fr := (D.out.kept.free (w.heap.size + 1) (List.mem_singleton.2 rfl)).2
             refine anyC 13 rfl fun K hK => ?_
             go_simp
             refine hK.out _ _ ⟨(set_far (by simp)).trans ((set_far (by simp)).trans ((set_far (by simp)).trans q0)), (set_far (by simp)).trans ((set_far (by simp)).trans ((set_far (by simp)).trans q1)), (set_far (by simp)).trans ((set_far (by simp)).trans ((set_far (by simp)).trans q2))⟩ (fun _ => ?_)
             try simp only [nrm]
             refine wpAnyH_done (by kernel_rfl) ?_ _
             go_wp2
             refine bodyPost_ret (results_one rfl _ _ _ [.slice (some ⟨g3, 0, none⟩) T.length k3, .slice (some ⟨g7, 0, none⟩) O.length k7, .slice (some ⟨g11, 0, none⟩) P.length k11] rfl (set_three (u0 := .slice none 0 0) (u1 := .slice none 0 0) (u2 := .slice none 0 0) _ _ _ q3 q4 q5) Tryz.underlying34 rfl (by kernel_rfl)) rfl ?_
             exact cp_fin D.out
       · go_simp
         have D : Hid _ := D.out.alloc8
         obtain ⟨x4, hx⟩ : ∃ x, x3.alloc (.cells #[] 105) = x := ⟨_, rfl⟩
         rw [hx] at D ⊢
         clear hx
         refine hK.out _ _ D.out.S (fun hS => ?_)
         try simp only [nrm]
         refine anyC 7 rfl fun K hK => ?_
         · rw [if_pos (by rfl)]
           refine wp_append_two _ _ _ 32 rfl (w.heap.size + 2) 105 iB _ 4 32 Tryz.underlying32 hiB zB0 zB1 zB2 rfl (by decide) _ _ _ rfl D.out.r4 ⟨bO, oO, none⟩ O.length cO (flatQ O) rfl (flatQ_length O) (quad_news (hO.here D.out.kept.hb)) (flatQ_cell O) (by rw [List.length_nil]; unfold maxLen; omega) (by rw [List.length_nil]; omega) D.out.sz (by omega) ?_
           intro vn x5 ho hgr hbl
           rw [List.length_nil, Nat.zero_add, show flatQ [] ++ flatQ O = flatQ O from rfl] at ho
           obtain ⟨g7, k7, rfl, _, _⟩ := own_someC ho nO.1
           have D : Hid _ := D.out.app4 hgr ho hbl
           clear ho hgr hbl
           refine hK.out _ _ D.out.S (fun hS => ?_)
           try simp only [nrm]
           refine anyC 11 rfl fun K hK => ?_
           · rw [if_pos (by rfl)]
             refine wp_append_two _ _ _ 32 rfl (w.heap.size + 2) 105 iB _ 4 32 Tryz.underlying32 hiB zB0 zB1 zB2 rfl (by decide) _ _ _ rfl D.out.r8 ⟨bP, oP, none⟩ P.length cP (flatQ P) rfl (flatQ_length P) (quad_news (hP.here D.out.kept.hb)) (flatQ_cell P) (by rw [List.length_nil]; unfold maxLen; omega) (by rw [List.length_nil]; omega) D.out.sz (by omega) ?_
             intro vn x6 ho hgr hbl
             rw [List.length_nil, Nat.zero_add, show flatQ [] ++ flatQ P = flatQ P from rfl] at ho
             obtain ⟨g11, k11, rfl, _, _⟩ := own_someC ho nP.1
             have D : Hid _ := D.out.app8 hgr ho hbl
             clear ho hgr hbl
             refine hK.out _ _ D.out.S (fun hS => ?_)
             try simp only [nrm]
             refine anyR 12 rfl ?_
             have ⟨⟨_, q0⟩, ⟨_, q1⟩, ⟨_, q2⟩, ⟨_, q3⟩, ⟨_, q4⟩, ⟨_, q5⟩, _⟩ := D.out.kept.cells
             have fr := (D.out.kept.free (w.heap.size + 1) (List.mem_singleton.2 rfl)).2
             refine anyC 13 rfl fun K hK => ?_
             go_simp
             refine hK.out _ _ ⟨(set_far (by simp)).trans ((set_far (by simp)).trans ((set_far (by simp)).trans q0)), (set_far (by simp)).trans ((set_far (by simp)).trans ((set_far (by simp)).trans q1)), (set_far (by simp)).trans ((set_far (by simp)).trans ((set_far (by simp)).trans q2))⟩ (fun _ => ?_)
             try simp only [nrm]
             refine wpAnyH_done (by kernel_rfl) ?_ _
             go_wp2
             refine bodyPost_ret (results_one rfl _ _ _ [.slice (some ⟨g3, 0, none⟩) T.length k3, .slice (some ⟨g7, 0, none⟩) O.length k7, .slice (some ⟨g11, 0, none⟩) P.length k11] rfl (set_three (u0 := .slice none 0 0) (u1 := .slice none 0 0) (u2 := .slice none 0 0) _ _ _ q3 q4 q5) Tryz.underlying34 rfl (by kernel_rfl)) rfl ?_
             exact cp_fin D.out
     · go_simp
       have D : Hid _ := D.out.alloc8
       obtain ⟨x3, hx⟩ : ∃ x, x2.alloc (.cells #[] 105) = x := ⟨_, rfl⟩
       rw [hx] at D ⊢
       clear hx
       refine hK.out _ _ D.out.S (fun hS => ?_)
       try simp only [nrm]
       refine anyC 3 rfl fun K hK => ?_
       · rw [if_pos (by rfl)]
         refine wp_append_two _ _ _ 31 rfl (w.heap.size + 2) 109 iC _ 4 32 Tryz.underlying31 hiC zC0 zC1 zC2 rfl (by decide) _ _ _ rfl D.out.r0 ⟨bT, oT, none⟩ T.length cT (flatQ T) rfl (flatQ_length T) (quad_news (hT.here D.out.kept.hb)) (flatQ_cell T) (by rw [List.length_nil]; unfold maxLen; omega) (by rw [List.length_nil]; omega) D.out.sz (by omega) ?_
         intro vn x4 ho hgr hbl
         rw [List.length_nil, Nat.zero_add, show flatQ [] ++ flatQ T = flatQ T from rfl] at ho
         obtain ⟨g3, k3, rfl, _, _⟩ := own_someC ho nT.1
         have D : Hid _ := D.out.app0 hgr ho
         clear ho hgr hbl
         refine hK.out _ _ D.out.S (fun hS => ?_)
         try simp only [nrm]
         refine anyC 7 rfl fun K hK => ?_
         · rw [if_pos (by rfl)]
           refine wp_append_two _ _ _ 32 rfl (w.heap.size + 2) 105 iB _ 4 32 Tryz.underlying32 hiB zB0 zB1 zB2 rfl (by decide) _ _ _ rfl D.out.r4 ⟨bO, oO, none⟩ O.length cO (flatQ O) rfl (flatQ_length O) (quad_news (hO.here D.out.kept.hb)) (flatQ_cell O) (by rw [List.length_nil]; unfold maxLen; omega) (by rw [List.length_nil]; omega) D.out.sz (by omega) ?_
           intro vn x5 ho hgr hbl
           rw [List.length_nil, Nat.zero_add, show flatQ [] ++ flatQ O = flatQ O from rfl] at ho
           obtain ⟨g7, k7, rfl, _, _⟩ := own_someC ho nO.1
           have D : Hid _ := D.out.app4 hgr ho hbl
           clear ho hgr hbl
           refine hK.out _ _ D.out.S (fun hS => ?_)
           try simp only [nrm]
           refine anyC 11 rfl fun K hK => ?_
           · rw [if_pos (by rfl)]
             refine wp_append_two _ _ _ 32 rfl (w.heap.size + 2) 105 iB _ 4 32 Tryz.underlying32 hiB zB0 zB1 zB2 rfl (by decide) _ _ _ rfl D.out.r8 ⟨bP, oP, none⟩ P.length cP (flatQ P) rfl (flatQ_length P) (quad_news (hP.here D.out.kept.hb)) (flatQ_cell P) (by rw [List.length_nil]; unfold maxLen; omega) (by rw [List.length_nil]; omega) D.out.sz (by omega) ?_
             intro vn x6 ho hgr hbl
             rw [List.length_nil, Nat.zero_add, show flatQ [] ++ flatQ P = flatQ P from rfl] at ho
             obtain ⟨g11, k11, rfl, _, _⟩ := own_someC ho nP.1
             have D : Hid _ := D.out.app8 hgr ho hbl
             clear ho hgr hbl
             refine hK.out _ _ D.out.S (fun hS => ?_)
             try simp only [nrm]
             refine anyR 12 rfl ?_
             have ⟨⟨_, q0⟩, ⟨_, q1⟩, ⟨_, q2⟩, ⟨_, q3⟩, ⟨_, q4⟩, ⟨_, q5⟩, _⟩ := D.out.kept.cells
             have fr := (D.out.kept.free (w.heap.size + 1) (List.mem_singleton.2 rfl)).2
             refine anyC 13 rfl fun K hK => ?_
             go_simp
             refine hK.out _ _ ⟨(set_far (by simp)).trans ((set_far (by simp)).trans ((set_far (by simp)).trans q0)), (set_far (by simp)).trans ((set_far (by simp)).trans ((set_far (by simp)).trans q1)), (set_far (by simp)).trans ((set_far (by simp)).trans ((set_far (by simp)).trans q2))⟩ (fun _ => ?_)
             try simp only [nrm]
             refine wpAnyH_done (by kernel_rfl) ?_ _
             go_wp2
             refine bodyPost_ret (results_one rfl _ _ _ [.slice (some ⟨g3, 0, none⟩) T.length k3, .slice (some ⟨g7, 0, none⟩) O.length k7, .slice (some ⟨g11, 0, none⟩) P.length k11] rfl (set_three (u0 := .slice none 0 0) (u1 := .slice none 0 0) (u2 := .slice none 0 0) _ _ _ q3 q4 q5) Tryz.underlying34 rfl (by kernel_rfl)) rfl ?_
             exact cp_fin D.out
   · go_simp
     have D : Hid _ := D.out.alloc8
     obtain ⟨x2, hx⟩ : ∃ x, x1.alloc (.cells #[] 105) = x := ⟨_, rfl⟩
     rw [hx] at D ⊢
     clear hx
     refine hK.out _ _ D.out.S (fun hS => ?_)
     try simp only [nrm]
     refine wpAnyH_ready (rs := [3, 4]) (by kernel_rfl) (by simp) (AllReadyH.cons rfl (fun K hK => ?_) (AllReadyH.cons rfl (fun K hK => ?_) AllReadyH.nil))
     · rw [if_pos (by rfl)]
       refine wp_append_two _ _ _ 31 rfl (w.heap.size + 2) 109 iC _ 4 32 Tryz.underlying31 hiC zC0 zC1 zC2 rfl (by decide) _ _ _ rfl D.out.r0 ⟨bT, oT, none⟩ T.length cT (flatQ T) rfl (flatQ_length T) (quad_news (hT.here D.out.kept.hb)) (flatQ_cell T) (by rw [List.length_nil]; unfold maxLen; omega) (by rw [List.length_nil]; omega) D.out.sz (by omega) ?_
       intro vn x3 ho hgr hbl
       rw [List.length_nil, Nat.zero_add, show flatQ [] ++ flatQ T = flatQ T from rfl] at ho
       obtain ⟨g3, k3, rfl, _, _⟩ := own_someC ho nT.1
       have D : Hid _ := D.out.app0 hgr ho
       clear ho hgr hbl
       refine hK.out _ _ D.out.S (fun hS => ?_)
       try simp only [nrm]
       refine anyC 4 rfl fun K hK => ?_
       · go_simp
         have D : Hid _ := D.out.alloc4
         obtain ⟨x4, hx⟩ : ∃ x, x3.alloc (.cells #[] 105) = x := ⟨_, rfl⟩
         rw [hx] at D ⊢
         clear hx
         refine hK.out _ _ D.out.S (fun hS => ?_)
         try simp only [nrm]
         refine anyC 7 rfl fun K hK => ?_
         · rw [if_pos (by rfl)]
           refine wp_append_two _ _ _ 32 rfl (w.heap.size + 2) 105 iB _ 4 32 Tryz.underlying32 hiB zB0 zB1 zB2 rfl (by decide) _ _ _ rfl D.out.r4 ⟨bO, oO, none⟩ O.length cO (flatQ O) rfl (flatQ_length O) (quad_news (hO.here D.out.kept.hb)) (flatQ_cell O) (by rw [List.length_nil]; unfold maxLen; omega) (by rw [List.length_nil]; omega) D.out.sz (by omega) ?_
           intro vn x5 ho hgr hbl
           rw [List.length_nil, Nat.zero_add, show flatQ [] ++ flatQ O = flatQ O from rfl] at ho
           obtain ⟨g7, k7, rfl, _, _⟩ := own_someC ho nO.1
           have D : Hid _ := D.out.app4 hgr ho hbl
           clear ho hgr hbl
           refine hK.out _ _ D.out.S (fun hS => ?_)
           try simp only [nrm]
           refine anyC 11 rfl fun K hK => ?_
           · rw [if_pos (by rfl)]
             refine wp_append_two _ _ _ 32 rfl (w.heap.size + 2) 105 iB _ 4 32 Tryz.underlying32 hiB zB0 zB1 zB2 rfl (by decide) _ _ _ rfl D.out.r8 ⟨bP, oP, none⟩ P.length cP (flatQ P) rfl (flatQ_length P) (quad_news (hP.here D.out.kept.hb)) (flatQ_cell P) (by rw [List.length_nil]; unfold maxLen; omega) (by rw [List.length_nil]; omega) D.out.sz (by omega) ?_
             intro vn x6 ho hgr hbl
             rw [List.length_nil, Nat.zero_add, show flatQ [] ++ flatQ P = flatQ P from rfl] at ho
             obtain ⟨g11, k11, rfl, _, _⟩ := own_someC ho nP.1
             have D : Hid _ := D.out.app8 hgr ho hbl
             clear ho hgr hbl
             refine hK.out _ _ D.out.S (fun hS => ?_)
             try simp only [nrm]
             refine anyR 12 rfl ?_
             have ⟨⟨_, q0⟩, ⟨_, q1⟩, ⟨_, q2⟩, ⟨_, q3⟩, ⟨_, q4⟩, ⟨_, q5⟩, _⟩ := D.out.kept.cells
             have fr := (D.out.kept.free (w.heap.size + 1) (List.mem_singleton.2 rfl)).2
             refine anyC 13 rfl fun K hK => ?_
             go_simp
             refine hK.out _ _ ⟨(set_far (by simp)).trans ((set_far (by simp)).trans ((set_far (by simp)).trans q0)), (set_far (by simp)).trans ((set_far (by simp)).trans ((set_far (by simp)).trans q1)), (set_far (by simp)).trans ((set_far (by simp)).trans ((set_far (by simp)).trans q2))⟩ (fun _ => ?_)
             try simp only [nrm]
             refine wpAnyH_done (by kernel_rfl) ?_ _
             go_wp2
             refine bodyPost_ret (results_one rfl _ _ _ [.slice (some ⟨g3, 0, none⟩) T.length k3, .slice (some ⟨g7, 0, none⟩) O.length k7, .slice (some ⟨g11, 0, none⟩) P.length k11] rfl (set_three (u0 := .slice none 0 0) (u1 := .slice none 0 0) (u2 := .slice none 0 0) _ _ _ q3 q4 q5) Tryz.underlying34 rfl (by kernel_rfl)) rfl ?_
             exact cp_fin D.out
     · go_simp
       have D : Hid _ := D.out.alloc4
       obtain ⟨x3, hx⟩ : ∃ x, x2.alloc (.cells #[] 105) = x := ⟨_, rfl⟩
       rw [hx] at D ⊢
       clear hx
       refine hK.out _ _ D.out.S (fun hS => ?_)
       try simp only [nrm]
       refine anyC 3 rfl fun K hK => ?_
       · rw [if_pos (by rfl)]
         refine wp_append_two _ _ _ 31 rfl (w.heap.size + 2) 109 iC _ 4 32 Tryz.underlying31 hiC zC0 zC1 zC2 rfl (by decide) _ _ _ rfl D.out.r0 ⟨bT, oT, none⟩ T.length cT (flatQ T) rfl (flatQ_length T) (quad_news (hT.here D.out.kept.hb)) (flatQ_cell T) (by rw [List.length_nil]; unfold maxLen; omega) (by rw [List.length_nil]; omega) D.out.sz (by omega) ?_
         intro vn x4 ho hgr hbl
         rw [List.length_nil, Nat.zero_add, show flatQ [] ++ flatQ T = flatQ T from rfl] at ho
         obtain ⟨g3, k3, rfl, _, _⟩ := own_someC ho nT.1
         have D : Hid _ := D.out.app0 hgr ho
         clear ho hgr hbl
         refine hK.out _ _ D.out.S (fun hS => ?_)
         try simp only [nrm]
         refine anyC 7 rfl fun K hK => ?_
         · rw [if_pos (by rfl)]
           refine wp_append_two _ _ _ 32 rfl (w.heap.size + 2) 105 iB _ 4 32 Tryz.underlying32 hiB zB0 zB1 zB2 rfl (by decide) _ _ _ rfl D.out.r4 ⟨bO, oO, none⟩ O.length cO (flatQ O) rfl (flatQ_length O) (quad_news (hO.here D.out.kept.hb)) (flatQ_cell O) (by rw [List.length_nil]; unfold maxLen; omega) (by rw [List.length_nil]; omega) D.out.sz (by omega) ?_
           intro vn x5 ho hgr hbl
           rw [List.length_nil, Nat.zero_add, show flatQ [] ++ flatQ O = flatQ O from rfl] at ho
           obtain ⟨g7, k7, rfl, _, _⟩ := own_someC ho nO.1
           have D : Hid _ := D.out.app4 hgr ho hbl
           clear ho hgr hbl
           refine hK.out _ _ D.out.S (fun hS => ?_)
           try simp only [nrm]
           refine anyC 11 rfl fun K hK => ?_
           · rw [if_pos (by rfl)]
             refine wp_append_two _ _ _ 32 rfl (w.heap.size + 2) 105 iB _ 4 32 Tryz.underlying32 hiB zB0 zB1 zB2 rfl (by decide) _ _ _ rfl D.out.r8 ⟨bP, oP, none⟩ P.length cP (flatQ P) rfl (flatQ_length P) (quad_news (hP.here D.out.kept.hb)) (flatQ_cell P) (by rw [List.length_nil]; unfold maxLen; omega) (by rw [List.length_nil]; omega) D.out.sz (by omega) ?_
             intro vn x6 ho hgr hbl
             rw [List.length_nil, Nat.zero_add, show flatQ [] ++ flatQ P = flatQ P from rfl] at ho
             obtain ⟨g11, k11, rfl, _, _⟩ := own_someC ho nP.1
             have D : Hid _ := D.out.app8 hgr ho hbl
             clear ho hgr hbl
             refine hK.out _ _ D.out.S (fun hS => ?_)
             try simp only [nrm]
             refine anyR 12 rfl ?_
             have ⟨⟨_, q0⟩, ⟨_, q1⟩, ⟨_, q2⟩, ⟨_, q3⟩, ⟨_, q4⟩, ⟨_, q5⟩, _⟩ := D.out.kept.cells
             have fr := (D.out.kept.free (w.heap.size + 1) (List.mem_singleton.2 rfl)).2
             refine anyC 13 rfl fun K hK => ?_
             go_simp
             refine hK.out _ _ ⟨(set_far (by simp)).trans ((set_far (by simp)).trans ((set_far (by simp)).trans q0)), (set_far (by simp)).trans ((set_far (by simp)).trans ((set_far (by simp)).trans q1)), (set_far (by simp)).trans ((set_far (by simp)).trans ((set_far (by simp)).trans q2))⟩ (fun _ => ?_)
             try simp only [nrm]
             refine wpAnyH_done (by kernel_rfl) ?_ _
             go_wp2
             refine bodyPost_ret (results_one rfl _ _ _ [.slice (some ⟨g3, 0, none⟩) T.length k3, .slice (some ⟨g7, 0, none⟩) O.length k7, .slice (some ⟨g11, 0, none⟩) P.length k11] rfl (set_three (u0 := .slice none 0 0) (u1 := .slice none 0 0) (u2 := .slice none 0 0) _ _ _ q3 q4 q5) Tryz.underlying34 rfl (by kernel_rfl)) rfl ?_
             exact cp_fin D.out
 · go_simp
   have D : Hid _ := D.out.alloc4
   obtain ⟨x1, hx⟩ : ∃ x, x0.alloc (.cells #[] 105) = x := ⟨_, rfl⟩
   rw [hx] at D ⊢
   clear hx
   refine hK.out _ _ D.out.S (fun hS => ?_)
   try simp only [nrm]
   refine wpAnyH_ready (rs := [0, 8]) (by kernel_rfl) (by simp) (AllReadyH.cons rfl (fun K hK => ?_) (AllReadyH.cons rfl (fun K hK => ?_) AllReadyH.nil))
   · go_simp
     have D : Hid _ := D.out.alloc0
     obtain ⟨x2, hx⟩ : ∃ x, x1.alloc (.cells #[] 109) = x := ⟨_, rfl⟩
     rw [hx] at D ⊢
     clear hx
     refine hK.out _ _ D.out.S (fun hS => ?_)
     try simp only [nrm]
     refine wpAnyH_ready (rs := [3, 8]) (by kernel_rfl) (by simp) (AllReadyH.cons rfl (fun K hK => ?_) (AllReadyH.cons rfl (fun K hK => ?_) AllReadyH.nil))
     · rw [if_pos (by rfl)]
       refine wp_append_two _ _ _ 31 rfl (w.heap.size + 2) 109 iC _ 4 32 Tryz.underlying31 hiC zC0 zC1 zC2 rfl (by decide) _ _ _ rfl D.out.r0 ⟨bT, oT, none⟩ T.length cT (flatQ T) rfl (flatQ_length T) (quad_news (hT.here D.out.kept.hb)) (flatQ_cell T) (by rw [List.length_nil]; unfold maxLen; omega) (by rw [List.length_nil]; omega) D.out.sz (by omega) ?_
       intro vn x3 ho hgr hbl
       rw [List.length_nil, Nat.zero_add, show flatQ [] ++ flatQ T = flatQ T from rfl] at ho
       obtain ⟨g3, k3, rfl, _, _⟩ := own_someC ho nT.1
       have D : Hid _ := D.out.app0 hgr ho
       clear ho hgr hbl
       refine hK.out _ _ D.out.S (fun hS => ?_)
       try simp only [nrm]
       refine wpAnyH_ready (rs := [7, 8]) (by kernel_rfl) (by simp) (AllReadyH.cons rfl (fun K hK => ?_) (AllReadyH.cons rfl (fun K hK => ?_) AllReadyH.nil))
       · rw [if_pos (by rfl)]
         refine wp_append_two _ _ _ 32 rfl (w.heap.size + 2) 105 iB _ 4 32 Tryz.underlying32 hiB zB0 zB1 zB2 rfl (by decide) _ _ _ rfl D.out.r4 ⟨bO, oO, none⟩ O.length cO (flatQ O) rfl (flatQ_length O) (quad_news (hO.here D.out.kept.hb)) (flatQ_cell O) (by rw [List.length_nil]; unfold maxLen; omega) (by rw [List.length_nil]; omega) D.out.sz (by omega) ?_
         intro vn x4 ho hgr hbl
         rw [List.length_nil, Nat.zero_add, show flatQ [] ++ flatQ O = flatQ O from rfl] at ho
         obtain ⟨g7, k7, rfl, _, _⟩ := own_someC ho nO.1
         have D : Hid _ := D.out.app4 hgr ho hbl
         clear ho hgr hbl
         refine hK.out _ _ D.out.S (fun hS => ?_)
         try simp only [nrm]
         refine anyC 8 rfl fun K hK => ?_
         · go_simp
           have D : Hid _ := D.out.alloc8
           obtain ⟨x5, hx⟩ : ∃ x, x4.alloc (.cells #[] 105) = x := ⟨_, rfl⟩
           rw [hx] at D ⊢
           clear hx
           refine hK.out _ _ D.out.S (fun hS => ?_)
           try simp only [nrm]
           refine anyC 11 rfl fun K hK => ?_
           · rw [if_pos (by rfl)]
             refine wp_append_two _ _ _ 32 rfl (w.heap.size + 2) 105 iB _ 4 32 Tryz.underlying32 hiB zB0 zB1 zB2 rfl (by decide) _ _ _ rfl D.out.r8 ⟨bP, oP, none⟩ P.length cP (flatQ P) rfl (flatQ_length P) (quad_news (hP.here D.out.kept.hb)) (flatQ_cell P) (by rw [List.length_nil]; unfold maxLen; omega) (by rw [List.length_nil]; omega) D.out.sz (by omega) ?_
             intro vn x6 ho hgr hbl
             rw [List.length_nil, Nat.zero_add, show flatQ [] ++ flatQ P = flatQ P from rfl] at ho
             obtain ⟨g11, k11, rfl, _, _⟩ := own_someC ho nP.1
             have D : Hid _ := D.out.app8 hgr ho hbl
             clear ho hgr hbl
             refine hK.out _ _ D.out.S (fun hS => ?_)
             try simp only [nrm]
             refine anyR 12 rfl ?_
             have ⟨⟨_, q0⟩, ⟨_, q1⟩, ⟨_, q2⟩, ⟨_, q3⟩, ⟨_, q4⟩, ⟨_, q5⟩, _⟩ := D.out.kept.cells
             have fr := (D.out.kept.free (w.heap.size + 1) (List.mem_singleton.2 rfl)).2
             refine anyC 13 rfl fun K hK => ?_
             go_simp
             refine hK.out _ _ ⟨(set_far (by simp)).trans ((set_far (by simp)).trans ((set_far (by simp)).trans q0)), (set_far (by simp)).trans ((set_far (by simp)).trans ((set_far (by simp)).trans q1)), (set_far (by simp)).trans ((set_far (by simp)).trans ((set_far (by simp)).trans q2))⟩ (fun _ => ?_)
             try simp only [nrm]
             refine wpAnyH_done (by kernel_rfl) ?_ _
             go_wp2
             refine bodyPost_ret (results_one rfl _ _ _ [.slice (some ⟨g3, 0, none⟩) T.length k3, .slice (some ⟨g7, 0, none⟩) O.length k7, .slice (some ⟨g11, 0, none⟩) P.length k11] rfl (set_three (u0 := .slice none 0 0) (u1 := .slice none 0 0) (u2 := .slice none 0 0) _ _ _ q3 q4 q5) Tryz.underlying34 rfl (by kernel_rfl)) rfl ?_
             exact cp_fin D.out
       · go_simp
         have D : Hid _ := D.out.alloc8
         obtain ⟨x4, hx⟩ : ∃ x, x3.alloc (.cells #[] 105) = x := ⟨_, rfl⟩
         rw [hx] at D ⊢
         clear hx
         refine hK.out _ _ D.out.S (fun hS => ?_)
         try simp only [nrm]
         refine anyC 7 rfl fun K hK => ?_
         · rw [if_pos (by rfl)]
           refine wp_append_two _ _ _ 32 rfl (w.heap.size + 2) 105 iB _ 4 32 Tryz.underlying32 hiB zB0 zB1 zB2 rfl (by decide) _ _ _ rfl D.out.r4 ⟨bO, oO, none⟩ O.length cO (flatQ O) rfl (flatQ_length O) (quad_news (hO.here D.out.kept.hb)) (flatQ_cell O) (by rw [List.length_nil]; unfold maxLen; omega) (by rw [List.length_nil]; omega) D.out.sz (by omega) ?_
           intro vn x5 ho hgr hbl
           rw [List.length_nil, Nat.zero_add, show flatQ [] ++ flatQ O = flatQ O from rfl] at ho
           obtain ⟨g7, k7, rfl, _, _⟩ := own_someC ho nO.1
           have D : Hid _ := D.out.app4 hgr ho hbl
           clear ho hgr hbl
           refine hK.out _ _ D.out.S (fun hS => ?_)
           try simp only [nrm]
           refine anyC 11 rfl fun K hK => ?_
           · rw [if_pos (by rfl)]
             refine wp_append_two _ _ _ 32 rfl (w.heap.size + 2) 105 iB _ 4 32 Tryz.underlying32 hiB zB0 zB1 zB2 rfl (by decide) _ _ _ rfl D.out.r8 ⟨bP, oP, none⟩ P.length cP (flatQ P) rfl (flatQ_length P) (quad_news (hP.here D.out.kept.hb)) (flatQ_cell P) (by rw [List.length_nil]; unfold maxLen; omega) (by rw [List.length_nil]; omega) D.out.sz (by omega) ?_
             intro vn x6 ho hgr hbl
             rw [List.length_nil, Nat.zero_add, show flatQ [] ++ flatQ P = flatQ P from rfl] at ho
             obtain ⟨g11, k11, rfl, _, _⟩ := own_someC ho nP.1
             have D : Hid _ := D.out.app8 hgr ho hbl
             clear ho hgr hbl
             refine hK.out _ _ D.out.S (fun hS => ?_)
             try simp only [nrm]
             refine anyR 12 rfl ?_
             have ⟨⟨_, q0⟩, ⟨_, q1⟩, ⟨_, q2⟩, ⟨_, q3⟩, ⟨_, q4⟩, ⟨_, q5⟩, _⟩ := D.out.kept.cells
             have fr := (D.out.kept.free (w.heap.size + 1) (List.mem_singleton.2 rfl)).2
             refine anyC 13 rfl fun K hK => ?_
             go_simp
             refine hK.out _ _ ⟨(set_far (by simp)).trans ((set_far (by simp)).trans ((set_far (by simp)).trans q0)), (set_far (by simp)).trans ((set_far (by simp)).trans ((set_far (by simp)).trans q1)), (set_far (by simp)).trans ((set_far (by simp)).trans ((set_far (by simp)).trans q2))⟩ (fun _ => ?_)
             try simp only [nrm]
             refine wpAnyH_done (by kernel_rfl) ?_ _
             go_wp2
             refine bodyPost_ret (results_one rfl _ _ _ [.slice (some ⟨g3, 0, none⟩) T.length k3, .slice (some ⟨g7, 0, none⟩) O.length k7, .slice (some ⟨g11, 0, none⟩) P.length k11] rfl (set_three (u0 := .slice none 0 0) (u1 := .slice none 0 0) (u2 := .slice none 0 0) _ _ _ q3 q4 q5) Tryz.underlying34 rfl (by kernel_rfl)) rfl ?_
             exact cp_fin D.out
     · go_simp
       have D : Hid _ := D.out.alloc8
       obtain ⟨x3, hx⟩ : ∃ x, x2.alloc (.cells #[] 105) = x := ⟨_, rfl⟩
       rw [hx] at D ⊢
       clear hx
       refine hK.out _ _ D.out.S (fun hS => ?_)
       try simp only [nrm]
       refine anyC 3 rfl fun K hK => ?_
       · rw [if_pos (by rfl)]
         refine wp_append_two _ _ _ 31 rfl (w.heap.size + 2) 109 iC _ 4 32 Tryz.underlying31 hiC zC0 zC1 zC2 rfl (by decide) _ _ _ rfl D.out.r0 ⟨bT, oT, none⟩ T.length cT (flatQ T) rfl (flatQ_length T) (quad_news (hT.here D.out.kept.hb)) (flatQ_cell T) (by rw [List.length_nil]; unfold maxLen; omega) (by rw [List.length_nil]; omega) D.out.sz (by omega) ?_
         intro vn x4 ho hgr hbl
         rw [List.length_nil, Nat.zero_add, show flatQ [] ++ flatQ T = flatQ T from rfl] at ho
         obtain ⟨g3, k3, rfl, _, _⟩ := own_someC ho nT.1
         have D : Hid _ := D.out.app0 hgr ho
         clear ho hgr hbl
         refine hK.out _ _ D.out.S (fun hS => ?_)
         try simp only [nrm]
         refine anyC 7 rfl fun K hK => ?_
         · rw [if_pos (by rfl)]
           refine wp_append_two _ _ _ 32 rfl (w.heap.size + 2) 105 iB _ 4 32 Tryz.underlying32 hiB zB0 zB1 zB2 rfl (by decide) _ _ _ rfl D.out.r4 ⟨bO, oO, none⟩ O.length cO (flatQ O) rfl (flatQ_length O) (quad_news (hO.here D.out.kept.hb)) (flatQ_cell O) (by rw [List.length_nil]; unfold maxLen; omega) (by rw [List.length_nil]; omega) D.out.sz (by omega) ?_
           intro vn x5 ho hgr hbl
           rw [List.length_nil, Nat.zero_add, show flatQ [] ++ flatQ O = flatQ O from rfl] at ho
           obtain ⟨g7, k7, rfl, _, _⟩ := own_someC ho nO.1
           have D : Hid _ := D.out.app4 hgr ho hbl
           clear ho hgr hbl
           refine hK.out _ _ D.out.S (fun hS => ?_)
           try simp only [nrm]
           refine anyC 11 rfl fun K hK => ?_
           · rw [if_pos (by rfl)]
             refine wp_append_two _ _ _ 32 rfl (w.heap.size + 2) 105 iB _ 4 32 Tryz.underlying32 hiB zB0 zB1 zB2 rfl (by decide) _ _ _ rfl D.out.r8 ⟨bP, oP, none⟩ P.length cP (flatQ P) rfl (flatQ_length P) (quad_news (hP.here D.out.kept.hb)) (flatQ_cell P) (by rw [List.length_nil]; unfold maxLen; omega) (by rw [List.length_nil]; omega) D.out.sz (by omega) ?_
             intro vn x6 ho hgr hbl
             rw [List.length_nil, Nat.zero_add, show flatQ [] ++ flatQ P = flatQ P from rfl] at ho
             obtain ⟨g11, k11, rfl, _, _⟩ := own_someC ho nP.1
             have D : Hid _ := D.out.app8 hgr ho hbl
             clear ho hgr hbl
             refine hK.out _ _ D.out.S (fun hS => ?_)
             try simp only [nrm]
             refine anyR 12 rfl ?_
             have ⟨⟨_, q0⟩, ⟨_, q1⟩, ⟨_, q2⟩, ⟨_, q3⟩, ⟨_, q4⟩, ⟨_, q5⟩, _⟩ := D.out.kept.cells
             have fr := (D.out.kept.free (w.heap.size + 1) (List.mem_singleton.2 rfl)).2
             refine anyC 13 rfl fun K hK => ?_
             go_simp
             refine hK.out _ _ ⟨(set_far (by simp)).trans ((set_far (by simp)).trans ((set_far (by simp)).trans q0)), (set_far (by simp)).trans ((set_far (by simp)).trans ((set_far (by simp)).trans q1)), (set_far (by simp)).trans ((set_far (by simp)).trans ((set_far (by simp)).trans q2))⟩ (fun _ => ?_)
             try simp only [nrm]
             refine wpAnyH_done (by kernel_rfl) ?_ _
             go_wp2
             refine bodyPost_ret (results_one rfl _ _ _ [.slice (some ⟨g3, 0, none⟩) T.length k3, .slice (some ⟨g7, 0, none⟩) O.length k7, .slice (some ⟨g11, 0, none⟩) P.length k11] rfl (set_three (u0 := .slice none 0 0) (u1 := .slice none 0 0) (u2 := .slice none 0 0) _ _ _ q3 q4 q5) Tryz.underlying34 rfl (by kernel_rfl)) rfl ?_
             exact cp_fin D.out
   · go_simp
     have D : Hid _ := D.out.alloc8
     obtain ⟨x2, hx⟩ : ∃ x, x1.alloc (.cells #[] 105) = x := ⟨_, rfl⟩
     rw [hx] at D ⊢
     clear hx
     refine hK.out _ _ D.out.S (fun hS => ?_)
     try simp only [nrm]
     refine anyC 0 rfl fun K hK => ?_
     · go_simp
       have D : Hid _ := D.out.alloc0
       obtain ⟨x3, hx⟩ : ∃ x, x2.alloc (.cells #[] 109) = x := ⟨_, rfl⟩
       rw [hx] at D ⊢
       clear hx
       refine hK.out _ _ D.out.S (fun hS => ?_)
       try simp only [nrm]
       refine anyC 3 rfl fun K hK => ?_
       · rw [if_pos (by rfl)]
         refine wp_append_two _ _ _ 31 rfl (w.heap.size + 2) 109 iC _ 4 32 Tryz.underlying31 hiC zC0 zC1 zC2 rfl (by decide) _ _ _ rfl D.out.r0 ⟨bT, oT, none⟩ T.length cT (flatQ T) rfl (flatQ_length T) (quad_news (hT.here D.out.kept.hb)) (flatQ_cell T) (by rw [List.length_nil]; unfold maxLen; omega) (by rw [List.length_nil]; omega) D.out.sz (by omega) ?_
         intro vn x4 ho hgr hbl
         rw [List.length_nil, Nat.zero_add, show flatQ [] ++ flatQ T = flatQ T from rfl] at ho
         obtain ⟨g3, k3, rfl, _, _⟩ := own_someC ho nT.1
         have D : Hid _ := D.out.app0 hgr ho
         clear ho hgr hbl
         refine hK.out _ _ D.out.S (fun hS => ?_)
         try simp only [nrm]
         refine anyC 7 rfl fun K hK => ?_
         · rw [if_pos (by rfl)]
           refine wp_append_two _ _ _ 32 rfl (w.heap.size + 2) 105 iB _ 4 32 Tryz.underlying32 hiB zB0 zB1 zB2 rfl (by decide) _ _ _ rfl D.out.r4 ⟨bO, oO, none⟩ O.length cO (flatQ O) rfl (flatQ_length O) (quad_news (hO.here D.out.kept.hb)) (flatQ_cell O) (by rw [List.length_nil]; unfold maxLen; omega) (by rw [List.length_nil]; omega) D.out.sz (by omega) ?_
           intro vn x5 ho hgr hbl
           rw [List.length_nil, Nat.zero_add, show flatQ [] ++ flatQ O = flatQ O from rfl] at ho
           obtain ⟨g7, k7, rfl, _, _⟩ := own_someC ho nO.1
           have D : Hid _ := D.out.app4 hgr ho hbl
           clear ho hgr hbl
           refine hK.out _ _ D.out.S (fun hS => ?_)
           try simp only [nrm]
           refine anyC 11 rfl fun K hK => ?_
           · rw [if_pos (by rfl)]
             refine wp_append_two _ _ _ 32 rfl (w.heap.size + 2) 105 iB _ 4 32 Tryz.underlying32 hiB zB0 zB1 zB2 rfl (by decide) _ _ _ rfl D.out.r8 ⟨bP, oP, none⟩ P.length cP (flatQ P) rfl (flatQ_length P) (quad_news (hP.here D.out.kept.hb)) (flatQ_cell P) (by rw [List.length_nil]; unfold maxLen; omega) (by rw [List.length_nil]; omega) D.out.sz (by omega) ?_
             intro vn x6 ho hgr hbl
             rw [List.length_nil, Nat.zero_add, show flatQ [] ++ flatQ P = flatQ P from rfl] at ho
             obtain ⟨g11, k11, rfl, _, _⟩ := own_someC ho nP.1
             have D : Hid _ := D.out.app8 hgr ho hbl
             clear ho hgr hbl
             refine hK.out _ _ D.out.S (fun hS => ?_)
             try simp only [nrm]
             refine anyR 12 rfl ?_
             have ⟨⟨_, q0⟩, ⟨_, q1⟩, ⟨_, q2⟩, ⟨_, q3⟩, ⟨_, q4⟩, ⟨_, q5⟩, _⟩ := D.out.kept.cells
             have fr := (D.out.kept.free (w.heap.size + 1) (List.mem_singleton.2 rfl)).2
             refine anyC 13 rfl fun K hK => ?_
             go_simp
             refine hK.out _ _ ⟨(set_far (by simp)).trans ((set_far (by simp)).trans ((set_far (by simp)).trans q0)), (set_far (by simp)).trans ((set_far (by simp)).trans ((set_far (by simp)).trans q1)), (set_far (by simp)).trans ((set_far (by simp)).trans ((set_far (by simp)).trans q2))⟩ (fun _ => ?_)
             try simp only [nrm]
             refine wpAnyH_done (by kernel_rfl) ?_ _
             go_wp2
             refine bodyPost_ret (results_one rfl _ _ _ [.slice (some ⟨g3, 0, none⟩) T.length k3, .slice (some ⟨g7, 0, none⟩) O.length k7, .slice (some ⟨g11, 0, none⟩) P.length k11] rfl (set_three (u0 := .slice none 0 0) (u1 := .slice none 0 0) (u2 := .slice none 0 0) _ _ _ q3 q4 q5) Tryz.underlying34 rfl (by kernel_rfl)) rfl ?_
             exact cp_fin D.out
 · go_simp
   have D : Hid _ := D.out.alloc8
   obtain ⟨x1, hx⟩ : ∃ x, x0.alloc (.cells #[] 105) = x := ⟨_, rfl⟩
   rw [hx] at D ⊢
   clear hx
   refine hK.out _ _ D.out.S (fun hS => ?_)
   try simp only [nrm]
   refine wpAnyH_ready (rs := [0, 4]) (by kernel_rfl) (by simp) (AllReadyH.cons rfl (fun K hK => ?_) (AllReadyH.cons rfl (fun K hK => ?_) AllReadyH.nil))
   · go_simp
     have D : Hid _ := D.out.alloc0
     obtain ⟨x2, hx⟩ : ∃ x, x1.alloc (.cells #[] 109) = x := ⟨_, rfl⟩
     rw [hx] at D ⊢
     clear hx
     refine hK.out _ _ D.out.S (fun hS => ?_)
     try simp only [nrm]
     refine wpAnyH_ready (rs := [3, 4]) (by kernel_rfl) (by simp) (AllReadyH.cons rfl (fun K hK => ?_) (AllReadyH.cons rfl (fun K hK => ?_) AllReadyH.nil))
     · rw [if_pos (by rfl)]
       refine wp_append_two _ _ _ 31 rfl (w.heap.size + 2) 109 iC _ 4 32 Tryz.underlying31 hiC zC0 zC1 zC2 rfl (by decide) _ _ _ rfl D.out.r0 ⟨bT, oT, none⟩ T.length cT (flatQ T) rfl (flatQ_length T) (quad_news (hT.here D.out.kept.hb)) (flatQ_cell T) (by rw [List.length_nil]; unfold maxLen; omega) (by rw [List.length_nil]; omega) D.out.sz (by omega) ?_
       intro vn x3 ho hgr hbl
       rw [List.length_nil, Nat.zero_add, show flatQ [] ++ flatQ T = flatQ T from rfl] at ho
       obtain ⟨g3, k3, rfl, _, _⟩ := own_someC ho nT.1
       have D : Hid _ := D.out.app0 hgr ho
       clear ho hgr hbl
       refine hK.out _ _ D.out.S (fun hS => ?_)
       try simp only [nrm]
       refine anyC 4 rfl fun K hK => ?_
       · go_simp
         have D : Hid _ := D.out.alloc4
         obtain ⟨x4, hx⟩ : ∃ x, x3.alloc (.cells #[] 105) = x := ⟨_, rfl⟩
         rw [hx] at D ⊢
         clear hx
         refine hK.out _ _ D.out.S (fun hS => ?_)
         try simp only [nrm]
         refine anyC 7 rfl fun K hK => ?_
         · rw [if_pos (by rfl)]
           refine wp_append_two _ _ _ 32 rfl (w.heap.size + 2) 105 iB _ 4 32 Tryz.underlying32 hiB zB0 zB1 zB2 rfl (by decide) _ _ _ rfl D.out.r4 ⟨bO, oO, none⟩ O.length cO (flatQ O) rfl (flatQ_length O) (quad_news (hO.here D.out.kept.hb)) (flatQ_cell O) (by rw [List.length_nil]; unfold maxLen; omega) (by rw [List.length_nil]; omega) D.out.sz (by omega) ?_
           intro vn x5 ho hgr hbl
           rw [List.length_nil, Nat.zero_add, show flatQ [] ++ flatQ O = flatQ O from rfl] at ho
           obtain ⟨g7, k7, rfl, _, _⟩ := own_someC ho nO.1
           have D : Hid _ := D.out.app4 hgr ho hbl
           clear ho hgr hbl
           refine hK.out _ _ D.out.S (fun hS => ?_)
           try simp only [nrm]
           refine anyC 11 rfl fun K hK => ?_
           · rw [if_pos (by rfl)]
             refine wp_append_two _ _ _ 32 rfl (w.heap.size + 2) 105 iB _ 4 32 Tryz.underlying32 hiB zB0 zB1 zB2 rfl (by decide) _ _ _ rfl D.out.r8 ⟨bP, oP, none⟩ P.length cP (flatQ P) rfl (flatQ_length P) (quad_news (hP.here D.out.kept.hb)) (flatQ_cell P) (by rw [List.length_nil]; unfold maxLen; omega) (by rw [List.length_nil]; omega) D.out.sz (by omega) ?_
             intro vn x6 ho hgr hbl
             rw [List.length_nil, Nat.zero_add, show flatQ [] ++ flatQ P = flatQ P from rfl] at ho
             obtain ⟨g11, k11, rfl, _, _⟩ := own_someC ho nP.1
             have D : Hid _ := D.out.app8 hgr ho hbl
             clear ho hgr hbl
             refine hK.out _ _ D.out.S (fun hS => ?_)
             try simp only [nrm]
             refine anyR 12 rfl ?_
             have ⟨⟨_, q0⟩, ⟨_, q1⟩, ⟨_, q2⟩, ⟨_, q3⟩, ⟨_, q4⟩, ⟨_, q5⟩, _⟩ := D.out.kept.cells
             have fr := (D.out.kept.free (w.heap.size + 1) (List.mem_singleton.2 rfl)).2
             refine anyC 13 rfl fun K hK => ?_
             go_simp
             refine hK.out _ _ ⟨(set_far (by simp)).trans ((set_far (by simp)).trans ((set_far (by simp)).trans q0)), (set_far (by simp)).trans ((set_far (by simp)).trans ((set_far (by simp)).trans q1)), (set_far (by simp)).trans ((set_far (by simp)).trans ((set_far (by simp)).trans q2))⟩ (fun _ => ?_)
             try simp only [nrm]
             refine wpAnyH_done (by kernel_rfl) ?_ _
             go_wp2
             refine bodyPost_ret (results_one rfl _ _ _ [.slice (some ⟨g3, 0, none⟩) T.length k3, .slice (some ⟨g7, 0, none⟩) O.length k7, .slice (some ⟨g11, 0, none⟩) P.length k11] rfl (set_three (u0 := .slice none 0 0) (u1 := .slice none 0 0) (u2 := .slice none 0 0) _ _ _ q3 q4 q5) Tryz.underlying34 rfl (by kernel_rfl)) rfl ?_
             exact cp_fin D.out
     · go_simp
       have D : Hid _ := D.out.alloc4
       obtain ⟨x3, hx⟩ : ∃ x, x2.alloc (.cells #[] 105) = x := ⟨_, rfl⟩
       rw [hx] at D ⊢
       clear hx
       refine hK.out _ _ D.out.S (fun hS => ?_)
       try simp only [nrm]
       refine anyC 3 rfl fun K hK => ?_
       · rw [if_pos (by rfl)]
         refine wp_append_two _ _ _ 31 rfl (w.heap.size + 2) 109 iC _ 4 32 Tryz.underlying31 hiC zC0 zC1 zC2 rfl (by decide) _ _ _ rfl D.out.r0 ⟨bT, oT, none⟩ T.length cT (flatQ T) rfl (flatQ_length T) (quad_news (hT.here D.out.kept.hb)) (flatQ_cell T) (by rw [List.length_nil]; unfold maxLen; omega) (by rw [List.length_nil]; omega) D.out.sz (by omega) ?_
         intro vn x4 ho hgr hbl
         rw [List.length_nil, Nat.zero_add, show flatQ [] ++ flatQ T = flatQ T from rfl] at ho
         obtain ⟨g3, k3, rfl, _, _⟩ := own_someC ho nT.1
         have D : Hid _ := D.out.app0 hgr ho
         clear ho hgr hbl
         refine hK.out _ _ D.out.S (fun hS => ?_)
         try simp only [nrm]
         refine anyC 7 rfl fun K hK => ?_
         · rw [if_pos (by rfl)]
           refine wp_append_two _ _ _ 32 rfl (w.heap.size + 2) 105 iB _ 4 32 Tryz.underlying32 hiB zB0 zB1 zB2 rfl (by decide) _ _ _ rfl D.out.r4 ⟨bO, oO, none⟩ O.length cO (flatQ O) rfl (flatQ_length O) (quad_news (hO.here D.out.kept.hb)) (flatQ_cell O) (by rw [List.length_nil]; unfold maxLen; omega) (by rw [List.length_nil]; omega) D.out.sz (by omega) ?_
           intro vn x5 ho hgr hbl
           rw [List.length_nil, Nat.zero_add, show flatQ [] ++ flatQ O = flatQ O from rfl] at ho
           obtain ⟨g7, k7, rfl, _, _⟩ := own_someC ho nO.1
           have D : Hid _ := D.out.app4 hgr ho hbl
           clear ho hgr hbl
           refine hK.out _ _ D.out.S (fun hS => ?_)
           try simp only [nrm]
           refine anyC 11 rfl fun K hK => ?_
           · rw [if_pos (by rfl)]
             refine wp_append_two _ _ _ 32 rfl (w.heap.size + 2) 105 iB _ 4 32 Tryz.underlying32 hiB zB0 zB1 zB2 rfl (by decide) _ _ _ rfl D.out.r8 ⟨bP, oP, none⟩ P.length cP (flatQ P) rfl (flatQ_length P) (quad_news (hP.here D.out.kept.hb)) (flatQ_cell P) (by rw [List.length_nil]; unfold maxLen; omega) (by rw [List.length_nil]; omega) D.out.sz (by omega) ?_
             intro vn x6 ho hgr hbl
             rw [List.length_nil, Nat.zero_add, show flatQ [] ++ flatQ P = flatQ P from rfl] at ho
             obtain ⟨g11, k11, rfl, _, _⟩ := own_someC ho nP.1
             have D : Hid _ := D.out.app8 hgr ho hbl
             clear ho hgr hbl
             refine hK.out _ _ D.out.S (fun hS => ?_)
             try simp only [nrm]
             refine anyR 12 rfl ?_
             have ⟨⟨_, q0⟩, ⟨_, q1⟩, ⟨_, q2⟩, ⟨_, q3⟩, ⟨_, q4⟩, ⟨_, q5⟩, _⟩ := D.out.kept.cells
             have fr := (D.out.kept.free (w.heap.size + 1) (List.mem_singleton.2 rfl)).2
             refine anyC 13 rfl fun K hK => ?_
             go_simp
             refine hK.out _ _ ⟨(set_far (by simp)).trans ((set_far (by simp)).trans ((set_far (by simp)).trans q0)), (set_far (by simp)).trans ((set_far (by simp)).trans ((set_far (by simp)).trans q1)), (set_far (by simp)).trans ((set_far (by simp)).trans ((set_far (by simp)).trans q2))⟩ (fun _ => ?_)
             try simp only [nrm]
             refine wpAnyH_done (by kernel_rfl) ?_ _
             go_wp2
             refine bodyPost_ret (results_one rfl _ _ _ [.slice (some ⟨g3, 0, none⟩) T.length k3, .slice (some ⟨g7, 0, none⟩) O.length k7, .slice (some ⟨g11, 0, none⟩) P.length k11] rfl (set_three (u0 := .slice none 0 0) (u1 := .slice none 0 0) (u2 := .slice none 0 0) _ _ _ q3 q4 q5) Tryz.underlying34 rfl (by kernel_rfl)) rfl ?_
             exact cp_fin D.out
   · go_simp
     have D : Hid _ := D.out.alloc4
     obtain ⟨x2, hx⟩ : ∃ x, x1.alloc (.cells #[] 105) = x := ⟨_, rfl⟩
     rw [hx] at D ⊢
     clear hx
     refine hK.out _ _ D.out.S (fun hS => ?_)
     try simp only [nrm]
     refine anyC 0 rfl fun K hK => ?_
     · go_simp
       have D : Hid _ := D.out.alloc0
       obtain ⟨x3, hx⟩ : ∃ x, x2.alloc (.cells #[] 109) = x := ⟨_, rfl⟩
       rw [hx] at D ⊢
       clear hx
       refine hK.out _ _ D.out.S (fun hS => ?_)
       try simp only [nrm]
       refine anyC 3 rfl fun K hK => ?_
       · rw [if_pos (by rfl)]
         refine wp_append_two _ _ _ 31 rfl (w.heap.size + 2) 109 iC _ 4 32 Tryz.underlying31 hiC zC0 zC1 zC2 rfl (by decide) _ _ _ rfl D.out.r0 ⟨bT, oT, none⟩ T.length cT (flatQ T) rfl (flatQ_length T) (quad_news (hT.here D.out.kept.hb)) (flatQ_cell T) (by rw [List.length_nil]; unfold maxLen; omega) (by rw [List.length_nil]; omega) D.out.sz (by omega) ?_
         intro vn x4 ho hgr hbl
         rw [List.length_nil, Nat.zero_add, show flatQ [] ++ flatQ T = flatQ T from rfl] at ho
         obtain ⟨g3, k3, rfl, _, _⟩ := own_someC ho nT.1
         have D : Hid _ := D.out.app0 hgr ho
         clear ho hgr hbl
         refine hK.out _ _ D.out.S (fun hS => ?_)
         try simp only [nrm]
         refine anyC 7 rfl fun K hK => ?_
         · rw [if_pos (by rfl)]
           refine wp_append_two _ _ _ 32 rfl (w.heap.size + 2) 105 iB _ 4 32 Tryz.underlying32 hiB zB0 zB1 zB2 rfl (by decide) _ _ _ rfl D.out.r4 ⟨bO, oO, none⟩ O.length cO (flatQ O) rfl (flatQ_length O) (quad_news (hO.here D.out.kept.hb)) (flatQ_cell O) (by rw [List.length_nil]; unfold maxLen; omega) (by rw [List.length_nil]; omega) D.out.sz (by omega) ?_
           intro vn x5 ho hgr hbl
           rw [List.length_nil, Nat.zero_add, show flatQ [] ++ flatQ O = flatQ O from rfl] at ho
           obtain ⟨g7, k7, rfl, _, _⟩ := own_someC ho nO.1
           have D : Hid _ := D.out.app4 hgr ho hbl
           clear ho hgr hbl
           refine hK.out _ _ D.out.S (fun hS => ?_)
           try simp only [nrm]
           refine anyC 11 rfl fun K hK => ?_
           · rw [if_pos (by rfl)]
             refine wp_append_two _ _ _ 32 rfl (w.heap.size + 2) 105 iB _ 4 32 Tryz.underlying32 hiB zB0 zB1 zB2 rfl (by decide) _ _ _ rfl D.out.r8 ⟨bP, oP, none⟩ P.length cP (flatQ P) rfl (flatQ_length P) (quad_news (hP.here D.out.kept.hb)) (flatQ_cell P) (by rw [List.length_nil]; unfold maxLen; omega) (by rw [List.length_nil]; omega) D.out.sz (by omega) ?_
             intro vn x6 ho hgr hbl
             rw [List.length_nil, Nat.zero_add, show flatQ [] ++ flatQ P = flatQ P from rfl] at ho
             obtain ⟨g11, k11, rfl, _, _⟩ := own_someC ho nP.1
             have D : Hid _ := D.out.app8 hgr ho hbl
             clear ho hgr hbl
             refine hK.out _ _ D.out.S (fun hS => ?_)
             try simp only [nrm]
             refine anyR 12 rfl ?_
             have ⟨⟨_, q0⟩, ⟨_, q1⟩, ⟨_, q2⟩, ⟨_, q3⟩, ⟨_, q4⟩, ⟨_, q5⟩, _⟩ := D.out.kept.cells
             have fr := (D.out.kept.free (w.heap.size + 1) (List.mem_singleton.2 rfl)).2
             refine anyC 13 rfl fun K hK => ?_
             go_simp
             refine hK.out _ _ ⟨(set_far (by simp)).trans ((set_far (by simp)).trans ((set_far (by simp)).trans q0)), (set_far (by simp)).trans ((set_far (by simp)).trans ((set_far (by simp)).trans q1)), (set_far (by simp)).trans ((set_far (by simp)).trans ((set_far (by simp)).trans q2))⟩ (fun _ => ?_)
             try simp only [nrm]
             refine wpAnyH_done (by kernel_rfl) ?_ _
             go_wp2
             refine bodyPost_ret (results_one rfl _ _ _ [.slice (some ⟨g3, 0, none⟩) T.length k3, .slice (some ⟨g7, 0, none⟩) O.length k7, .slice (some ⟨g11, 0, none⟩) P.length k11] rfl (set_three (u0 := .slice none 0 0) (u1 := .slice none 0 0) (u2 := .slice none 0 0) _ _ _ q3 q4 q5) Tryz.underlying34 rfl (by kernel_rfl)) rfl ?_
             exact cp_fin D.out
theorem list14 {α : Type} {cs : List α} (h : cs.length = 14) : ∃ u0 u1 u2 u3 u4 u5 u6 u7 u8 u9 u10 u11 u12 u13, cs = [u0, u1, u2, u3, u4, u5, u6, u7, u8, u9, u10, u11, u12, u13] := by
 match cs, h with
 | [u0, u1, u2, u3, u4, u5, u6, u7, u8, u9, u10, u11, u12, u13], _ => exact ⟨u0, u1, u2, u3, u4, u5, u6, u7, u8, u9, u10, u11, u12, u13, rfl⟩
theorem list5 {α : Type} {cs : List α} (h : cs.length = 5) : ∃ u0 u1 u2 u3 u4, cs = [u0, u1, u2, u3, u4] := by
 match cs, h with
 | [u0, u1, u2, u3, u4], _ => exact ⟨u0, u1, u2, u3, u4, rfl⟩
section
variable {H : Type} {enc : TypeId × Value → H} {P : Program} {w : World} {sp : Nat → Bool} {held : Bool}
theorem open_conn {e i s c b : TypeId} {f0 f1 f2 f3 f4 : Field} {g0 g1 g2 g3 g4 g5 g6 g7 g8 g9 : Field} (he : P.underlying e = some (.struct #[f0, f1, f2, f3, f4])) (hc : P.underlying c = some (.struct #[g0, g1, g2, g3, g4, g5, g6, g7, g8, g9])) (hi : P.underlying i = some (.int .i64)) (hb : P.underlying b = some .bool) (hs : P.underlying s = some (.slice i)) (t0 : f0.type = i) (o0 : f0.offset = 0) (t1 : f1.type = i) (o1 : f1.offset = 1) (t2 : f2.type = i) (o2 : f2.offset = 2) (t3 : f3.type = c) (o3 : f3.offset = 3) (t4 : f4.type = s) (o4 : f4.offset = 13) (tg0 : g0.type = i) (og0 : g0.offset = 0) (tg1 : g1.type = i) (og1 : g1.offset = 1) (tg2 : g2.type = i) (og2 : g2.offset = 2) (tg3 : g3.type = i) (og3 : g3.offset = 3) (tg4 : g4.type = i) (og4 : g4.offset = 4) (tg5 : g5.type = i) (og5 : g5.offset = 5) (tg6 : g6.type = i) (og6 : g6.offset = 6) (tg7 : g7.type = i) (og7 : g7.offset = 7) (tg8 : g8.type = i) (og8 : g8.offset = 8) (tg9 : g9.type = b) (og9 : g9.offset = 9)
   (ci : P.cellsOf i = 1) (cb : P.cellsOf b = 1) (cc : P.cellsOf c = 10) (cs' : P.cellsOf s = 1) (ce : P.cellsOf e = 14) {fuel : Nat} {cs : List Value} {x : DataW H × List MemPlace}
   (h : DataW.trod enc P w 0 sp held fuel e cs = some x) : ∃ (k : Kn) (sa : Option Addr) (sc : Nat), cs = k.cs ++ [.slice sa k.xs.length sc] ∧ ISmp w.heap.size w sa k.xs ∧ k.xs.length ≤ maxLen := by
 obtain ⟨ys, n, _, rfl, hl, hlen, hf⟩ := DataW.trod_struct he h
 rw [ce] at hl
 obtain ⟨u0, u1, u2, u3, u4, u5, u6, u7, u8, u9, u10, u11, u12, u13, rfl⟩ := list14 hl
 obtain ⟨y0, y1, y2, y3, y4, rfl⟩ := list5 (show ys.length = 5 from hlen)
 have h0 := hf 0 f0 rfl
 change _ = some y0 at h0
 rw [o0, t0, ci] at h0
 have h1 := hf 1 f1 rfl
 change _ = some y1 at h1
 rw [o1, t1, ci] at h1
 have h2 := hf 2 f2 rfl
 change _ = some y2 at h2
 rw [o2, t2, ci] at h2
 have h3 := hf 3 f3 rfl
 change _ = some y3 at h3
 rw [o3, t3, cc] at h3
 have h4 := hf 4 f4 rfl
 change _ = some y4 at h4
 rw [o4, t4, cs'] at h4
 obtain ⟨p0, e0, _⟩ := DataW.trod_int hi h0
 obtain ⟨p1, e1, _⟩ := DataW.trod_int hi h1
 obtain ⟨p2, e2, _⟩ := DataW.trod_int hi h2
 obtain ⟨k, wn, th, fl, ac, la, og, st, fr, sl, e3, _⟩ := open_ints9b hc hi hb tg0 og0 tg1 og1 tg2 og2 tg3 og3 tg4 og4 tg5 og5 tg6 og6 tg7 og7 tg8 og8 tg9 og9 ci cb cc h3
 have h4' : DataW.trod enc P w 0 sp held n s [u13] = some y4 := h4
 obtain ⟨sa, sc, xs, e4, k1, k2⟩ := open_numbers hs hi ci h4'
 simp only [List.drop_zero, List.take_succ_cons, List.take_zero, List.drop_succ_cons, List.cons.injEq, and_true] at e0 e1 e2 e3
 obtain ⟨q0, q1, q2, q3, q4, q5, q6, q7, q8, q9⟩ := e3
 subst e0 e1 e2 e4
 subst q0 q1 q2 q3 q4 q5 q6 q7 q8 q9
 exact ⟨⟨p0, p1, p2, k, wn, th, fl, ac, la, og, st, fr, sl, xs⟩, sa, sc, rfl, k1, k2⟩
theorem open_conns {t e i s c b : TypeId} {f0 f1 f2 f3 f4 : Field} {g0 g1 g2 g3 g4 g5 g6 g7 g8 g9 : Field} (ht : P.underlying t = some (.slice e)) (he : P.underlying e = some (.struct #[f0, f1, f2, f3, f4])) (hc : P.underlying c = some (.struct #[g0, g1, g2, g3, g4, g5, g6, g7, g8, g9])) (hi : P.underlying i = some (.int .i64)) (hb : P.underlying b = some .bool) (hs : P.underlying s = some (.slice i)) (t0 : f0.type = i) (o0 : f0.offset = 0) (t1 : f1.type = i) (o1 : f1.offset = 1) (t2 : f2.type = i) (o2 : f2.offset = 2) (t3 : f3.type = c) (o3 : f3.offset = 3) (t4 : f4.type = s) (o4 : f4.offset = 13) (tg0 : g0.type = i) (og0 : g0.offset = 0) (tg1 : g1.type = i) (og1 : g1.offset = 1) (tg2 : g2.type = i) (og2 : g2.offset = 2) (tg3 : g3.type = i) (og3 : g3.offset = 3) (tg4 : g4.type = i) (og4 : g4.offset = 4) (tg5 : g5.type = i) (og5 : g5.offset = 5) (tg6 : g6.type = i) (og6 : g6.offset = 6) (tg7 : g7.type = i) (og7 : g7.offset = 7) (tg8 : g8.type = i) (og8 : g8.offset = 8) (tg9 : g9.type = b) (og9 : g9.offset = 9)
   (ci : P.cellsOf i = 1) (cb : P.cellsOf b = 1) (cc : P.cellsOf c = 10) (cs' : P.cellsOf s = 1) (ce : P.cellsOf e = 14) {fuel : Nat} {v : Value} {x : DataW H × List MemPlace}
   (h : DataW.trod enc P w 0 sp held fuel t [v] = some x) :
   ∃ (a : Option Addr) (cap : Nat) (ks : List Kn), v = .slice a ks.length cap ∧ Kls w.heap.size w a ks ∧ ks.length ≤ maxLen ∧ ∀ k ∈ ks, k.xs.length ≤ maxLen := by
 rcases DataW.trod_slice ht h with ⟨e1, _⟩ | ⟨a, len, cap, elems, rest, n, _, e1, _, _, hl, hm, hlen, hel, _, _⟩
 · obtain rfl : v = .slice none 0 0 := by simpa using e1
   exact ⟨none, 0, [], rfl, Kls.nil _ _ _, (by unfold maxLen; simp), fun f hf => by cases hf⟩
 · obtain rfl : v = .slice (some a) len cap := by simpa using e1
   have one : ∀ j, j < len → ∃ k : Kn, (∃ sa sc, (∀ m u, (k.cs ++ [.slice sa k.xs.length sc])[m]? = some u → w.cell? ((a.add (j * 14)).add m) = some u) ∧ ISmp w.heap.size w sa k.xs) ∧ k.xs.length ≤ maxLen := by
     intro j hj
     obtain ⟨y, hy⟩ : ∃ y, elems[j]? = some y := ⟨_, List.getElem?_eq_getElem (by omega)⟩
     have hbd := hel j hj
     rw [hy, ce, Option.bind_eq_some_iff] at hbd
     obtain ⟨cs, hcs, htr⟩ := hbd
     obtain ⟨k, sa, sc, e, k1, k2⟩ := open_conn he hc hi hb hs t0 o0 t1 o1 t2 o2 t3 o3 t4 o4 tg0 og0 tg1 og1 tg2 og2 tg3 og3 tg4 og4 tg5 og5 tg6 og6 tg7 og7 tg8 og8 tg9 og9 ci cb cc cs' ce htr
     obtain ⟨_, _, hcell⟩ := World.cells?_some hcs
     subst e
     exact ⟨k, ⟨sa, sc, fun m u hu => by
       obtain ⟨hm', e⟩ := List.getElem?_eq_some_iff.1 hu
       have := hcell m hm'
       rw [hu] at this
       exact this, k1⟩, k2⟩
   obtain ⟨ks, hx1, hx2⟩ := pick_list one
   refine ⟨some a, cap, ks, by rw [hx1], fun i hi' => ?_, by omega, fun f hf => ?_⟩
   · obtain ⟨⟨sa, sc, c0, hsm⟩, _⟩ := hx2 i hi'
     have hspot : a.spot = none := by
       obtain ⟨k0, ⟨_, _, c0', _⟩, _⟩ := one 0 (by omega)
       have := c0' 0 (.int .i64 k0.id) rfl
       simpa [Addr.add] using World.cell?_spot this
     obtain ⟨b', off, spot⟩ := a
     simp only at hspot
     subst hspot
     have e2 : ((⟨b', off, none⟩ : Addr).add (i * 14)) = ⟨b', off + i * 14, none⟩ := by unfold Addr.add; split <;> simp_all
     have e3 : ∀ m, ((⟨b', off + i * 14, none⟩ : Addr).add m) = ⟨b', off + i * 14 + m, none⟩ := fun m => by unfold Addr.add; split <;> simp_all
     have c1 : ∀ m u, (ks[i].cs ++ [.slice sa ks[i].xs.length sc])[m]? = some u → w.cell? ⟨b', off + i * 14 + m, none⟩ = some u := fun m u hu => by
       have := c0 m u hu
       rw [e2, e3] at this
       exact this
     have c13 := c1 13 (.slice sa ks[i].xs.length sc) rfl
     exact ⟨b', off, sa, sc, rfl, World.block_lt_of_cell? w _ c13, fun j u hu => c1 j u (by rw [List.getElem?_append_left (List.getElem?_eq_some_iff.1 hu).1]; exact hu), c13, hsm⟩
   · obtain ⟨i, hi', rfl⟩ := List.mem_iff_getElem.1 hf
     exact (hx2 i hi').2
end
theorem cellsE_engine : Tryz.prog.cellsOf 29 = 7 := by kernel_rfl
theorem cellsE_conn : Tryz.prog.cellsOf 102 = 14 := by kernel_rfl
theorem cellsE_connS : Tryz.prog.cellsOf 27 = 1 := by kernel_rfl
theorem cellsE_placeS : Tryz.prog.cellsOf 26 = 1 := by kernel_rfl
theorem cellsE_place : Tryz.prog.cellsOf 98 = 3 := by kernel_rfl
theorem cellsE_lend : Tryz.prog.cellsOf 25 = 3 := by kernel_rfl
theorem cellsE_cc : Tryz.prog.cellsOf 100 = 10 := by kernel_rfl
theorem cellsE_intS : Tryz.prog.cellsOf 56 = 1 := by kernel_rfl
theorem cellsE_i64 : Tryz.prog.cellsOf 2 = 1 := by kernel_rfl
theorem cellsE_bool : Tryz.prog.cellsOf 4 = 1 := by kernel_rfl
/-- The cells of an Engine. -/
abbrev engV (now : Int) (aT : Option Addr) (nT cT : Nat) (aO : Option Addr) (nO cO : Nat) (aP : Option Addr) (nP cP : Nat) (aL : Option Addr) (nL cL : Nat) (aK : Option Addr) (nK cK : Nat) (nx : Int) : Value := .agg #[.int .i64 now, .slice aT nT cT, .slice aO nO cO, .slice aP nP cP, .slice aL nL cL, .slice aK nK cK, .int .i64 nx]
theorem list7 {α : Type} {cs : List α} (h : cs.length = 7) : ∃ u0 u1 u2 u3 u4 u5 u6, cs = [u0, u1, u2, u3, u4, u5, u6] := by
 match cs, h with
 | [u0, u1, u2, u3, u4, u5, u6], _ => exact ⟨u0, u1, u2, u3, u4, u5, u6, rfl⟩
theorem open_engine {H : Type} {enc : TypeId × Value → H} {w : World} {sp : Nat → Bool} {held : Bool} {r : Reach} {b0 : Nat} {v : Value} {d : DataW H} {ps : List MemPlace}
    (hv : Value.okWide Tryz.prog w r b0 29 v) (h : DataW.Trod enc Tryz.prog w 0 sp held 29 v d ps) :
    ∃ (now : Int) (aT : Option Addr) (cT : Nat) (T : List Q4) (aO : Option Addr) (cO : Nat) (O : List Q4) (aP : Option Addr) (cP : Nat) (P : List Q4) (aL : Option Addr) (cL : Nat) (L : List F8) (aK : Option Addr) (cK : Nat) (K : List Kn) (nx : Int),
      v = engV now aT T.length cT aO O.length cO aP P.length cP aL L.length cL aK K.length cK nx ∧ I64 now ∧ Quad w.heap.size w aT T ∧ Quad w.heap.size w aO O ∧ Quad w.heap.size w aP P ∧ T.length ≤ maxLen ∧ O.length ≤ maxLen ∧ P.length ≤ maxLen ∧
      Fls w.heap.size w aL L ∧ L.length ≤ maxLen ∧ (∀ f ∈ L, f.2.2.length ≤ maxLen) ∧ Kls w.heap.size w aK K ∧ K.length ≤ maxLen ∧ (∀ k ∈ K, k.xs.length ≤ maxLen) ∧ I64 nx := by
  have hv' := hv
  unfold Value.okWide at hv'
  rw [Tryz.underlying29] at hv'
  obtain ⟨cs, rfl, hsz, _⟩ := hv'
  obtain ⟨n, hn⟩ := h
  have hn' : DataW.trod enc Tryz.prog w 0 sp held n 29 cs.toList = some (d, ps) := hn
  obtain ⟨ys, m, _, _, hl, hlen, hf⟩ := DataW.trod_struct Tryz.underlying29 hn'
  rw [cellsE_engine] at hl
  obtain ⟨u0, u1, u2, u3, u4, u5, u6, hcs⟩ := list7 hl
  obtain ⟨y0, y1, y2, y3, y4, rfl⟩ := list5 (show ys.length = 5 from hlen)
  rw [hcs] at hf
  have k0 : DataW.trod enc Tryz.prog w 0 sp held m 2 (List.take (Tryz.prog.cellsOf 2) (List.drop 0 [u0, u1, u2, u3, u4, u5, u6])) = some y0 := hf 0 _ rfl
  have k1 : DataW.trod enc Tryz.prog w 0 sp held m 25 (List.take (Tryz.prog.cellsOf 25) (List.drop 1 [u0, u1, u2, u3, u4, u5, u6])) = some y1 := hf 1 _ rfl
  have k2 : DataW.trod enc Tryz.prog w 0 sp held m 26 (List.take (Tryz.prog.cellsOf 26) (List.drop 4 [u0, u1, u2, u3, u4, u5, u6])) = some y2 := hf 2 _ rfl
  have k3 : DataW.trod enc Tryz.prog w 0 sp held m 27 (List.take (Tryz.prog.cellsOf 27) (List.drop 5 [u0, u1, u2, u3, u4, u5, u6])) = some y3 := hf 3 _ rfl
  have k4 : DataW.trod enc Tryz.prog w 0 sp held m 2 (List.take (Tryz.prog.cellsOf 2) (List.drop 6 [u0, u1, u2, u3, u4, u5, u6])) = some y4 := hf 4 _ rfl
  rw [cellsE_i64] at k0 k4
  rw [cellsE_lend] at k1
  rw [cellsE_placeS] at k2
  rw [cellsE_connS] at k3
  have k2' : DataW.trod enc Tryz.prog w 0 sp held m 26 [u4] = some y2 := k2
  have k3' : DataW.trod enc Tryz.prog w 0 sp held m 27 [u5] = some y3 := k3
  have k1' : DataW.trod enc Tryz.prog w 0 sp held m 25 [u1, u2, u3] = some y1 := k1
  obtain ⟨p, e0, _, w0⟩ := DataW.trod_int Tryz.underlying2 k0
  obtain ⟨q, e6, _, w6⟩ := DataW.trod_int Tryz.underlying2 k4
  obtain rfl : u0 = .int .i64 p := by simpa using e0
  obtain rfl : u6 = .int .i64 q := by simpa using e6
  obtain ⟨z0, z1, z2, m', _, hl3, h0, h1, h2⟩ := Go.Deep.trod_struct3 Tryz.underlying25 k1'
  have j0 : DataW.trod enc Tryz.prog w 0 sp held m' 22 (List.take (Tryz.prog.cellsOf 22) (List.drop 0 [u1, u2, u3])) = some z0 := h0
  have j1 : DataW.trod enc Tryz.prog w 0 sp held m' 23 (List.take (Tryz.prog.cellsOf 23) (List.drop 1 [u1, u2, u3])) = some z1 := h1
  have j2 : DataW.trod enc Tryz.prog w 0 sp held m' 23 (List.take (Tryz.prog.cellsOf 23) (List.drop 2 [u1, u2, u3])) = some z2 := h2
  rw [cells_clsS] at j0
  rw [cells_bktS] at j1 j2
  have j0' : DataW.trod enc Tryz.prog w 0 sp held m' 22 [u1] = some z0 := j0
  have j1' : DataW.trod enc Tryz.prog w 0 sp held m' 23 [u2] = some z1 := j1
  have j2' : DataW.trod enc Tryz.prog w 0 sp held m' 23 [u3] = some z2 := j2
  obtain ⟨aT, cT, T, rfl, qT, _, _, lT, mT⟩ := open_quads Tryz.underlying22 Tryz.underlying154 Tryz.underlying2 rfl rfl rfl rfl rfl rfl rfl rfl cellsQ_i_class cellsQ_class j0'
  obtain ⟨aO, cO, O, rfl, qO, _, _, lO, mO⟩ := open_quads Tryz.underlying23 Tryz.underlying156 Tryz.underlying2 rfl rfl rfl rfl rfl rfl rfl rfl cellsQ_i_bucket cellsQ_bucket j1'
  obtain ⟨aP, cP, P, rfl, qP, _, _, lP, mP⟩ := open_quads Tryz.underlying23 Tryz.underlying156 Tryz.underlying2 rfl rfl rfl rfl rfl rfl rfl rfl cellsQ_i_bucket cellsQ_bucket j2'
  obtain ⟨aL, cL, L, rfl, hL, mL, sL⟩ := open_flows Tryz.underlying26 Tryz.underlying98 Tryz.underlying2 Tryz.underlying56 rfl rfl rfl rfl rfl rfl cellsE_i64 cellsE_intS cellsE_place k2'
  obtain ⟨aK, cK, K, rfl, hK, mK, sK⟩ := open_conns Tryz.underlying27 Tryz.underlying102 Tryz.underlying100 Tryz.underlying2 Tryz.underlying4 Tryz.underlying56 rfl rfl rfl rfl rfl rfl rfl rfl rfl rfl rfl rfl rfl rfl rfl rfl rfl rfl rfl rfl rfl rfl rfl rfl rfl rfl rfl rfl rfl rfl cellsE_i64 cellsE_bool cellsE_cc cellsE_intS cellsE_conn k3'
  refine ⟨p, aT, cT, T, aO, cO, O, aP, cP, P, aL, cL, L, aK, cK, K, q, ?_, bounds_i64 w0, qT, qO, qP, by omega, by omega, by omega, hL, mL, sL, hK, mK, sK, bounds_i64 w6⟩
  congr 1
  exact Array.ext' hcs
end Go.Proofs.YtkohlmloobojfaaGreat
