/- Lemmas on the way, of several texts: LendV, EngOpen, SpecBuck4, Plc, SpecPlc, ImplBuckA, ImplBuckB, ImplBuck, LendW, SpecCopy, Blk. -/
import Derived.Test.YthiojkjcmhojoaaGreatGrpAM
import Derived.Test.YthiojkjcmhojoaaGreatGrpAP
import Derived.Test.YthiojkjcmhojoaaGreatGrpAF
import Derived.Deep.Strs
import Derived.Deep.DeepCutAuto
import Derived.Test.YthiojkjcmhojoaaGreatGrpAG
import Derived.Test.YthiojkjcmhojoaaGreatGrpAH
import Derived.Deep.RegionHeld3
import Derived.Test.YthiojkjcmhojoaaGreatGrpAI
import Derived.Deep.CutRange
import Derived.BigQuiet
import Derived.Deep.QuietTactic
import Derived.Test.YthiojkjcmhojoaaGreatGrpAE
import Derived.Test.YthiojkjcmhojoaaGreatGrpAC
import Derived.Laws.OwnMore
namespace Go.Proofs.YthiojkjcmhojoaaGreat
open Go.ChangeShapes Go.WideShapes Go.ChangeAt Go.RowKit
set_option maxRecDepth 100000
set_option linter.unusedVariables false
set_option linter.unusedSimpArgs false
abbrev lendV (aT : Option Addr) (nT cT : Nat) (aO : Option Addr) (nO cO : Nat) (aP : Option Addr) (nP cP : Nat) : Value := .agg #[.slice aT nT cT, .slice aO nO cO, .slice aP nP cP]
section
variable {H : Type} {enc : TypeId × Value → H} {P : Program} {w : World} {sp : Nat → Bool} {held : Bool}
end
/-- The cells of an Engine. -/
abbrev engV (now : Int) (aT : Option Addr) (nT cT : Nat) (aO : Option Addr) (nO cO : Nat) (aP : Option Addr) (nP cP : Nat) (aL : Option Addr) (nL cL : Nat) (aK : Option Addr) (nK cK : Nat) (nx : Int) : Value := .agg #[.int .i64 now, .slice aT nT cT, .slice aO nO cO, .slice aP nP cP, .slice aL nL cL, .slice aK nK cK, .int .i64 nx]
def resetOk (r u l t r' u' now : Int) : Bool := ((bokB r u l t && rateB r') && winB u') && timeB now
def resetOf (r u l t r' u' now : Int) : Int × Int × Int × Int := if resetOk r u l t r' u' now = true then (r', u', min (fillL r u l t now) (1000000000 * u'), fillT t now) else (0, 0, 0, 0)
theorem reset_no {r u l t r' u' now : Int} (h : resetOk r u l t r' u' now = false) : resetOf r u l t r' u' now = (0, 0, 0, 0) := by unfold resetOf; rw [h]; rfl
theorem over3 {w : World} {g : Nat} {u0 u1 u2 : Value} (c0 c1 c2 : Value) (h0 : w.cell? ⟨g, 0, none⟩ = some u0) (h1 : w.cell? ⟨g, 1, none⟩ = some u1) (h2 : w.cell? ⟨g, 2, none⟩ = some u2) :
   ∃ w4, w4 = (((w.setCell ⟨g, 0, none⟩ c0).setCell ⟨g, 1, none⟩ c1).setCell ⟨g, 2, none⟩ c2) ∧ (∀ j v, [c0, c1, c2][j]? = some v → w4.cell? ⟨g, j, none⟩ = some v) ∧ (∀ k o : Nat, w4.frozen? ⟨k, o, none⟩ = w.frozen? ⟨k, o, none⟩) ∧ w4.heap.size = w.heap.size ∧ (∀ B, B ≤ g → Below B w w4) ∧ Only g w w4 :=
 ⟨_, rfl, put3_zero c0 c1 c2 h0 h1 h2, fun k o => by simp, by simp, fun B hB => Below.setCell (Below.setCell (Below.setCell (Below.refl _ _) (p := ⟨g, 0, none⟩) hB _) (p := ⟨g, 1, none⟩) hB _) (p := ⟨g, 2, none⟩) hB _, Only.setCell (Only.setCell (Only.setCell (Only.refl _ _) (p := ⟨g, 0, none⟩) rfl _) (p := ⟨g, 1, none⟩) rfl _) (p := ⟨g, 2, none⟩) rfl _⟩
/-- A Place in a variable. -/
structure Qc (w : World) (b : Nat) (wd fl : Int) (v : Value) : Prop where
 z : b < w.heap.size
 c0 : w.cell? ⟨b, 0, none⟩ = some (.int .i64 wd)
 c1 : w.cell? ⟨b, 1, none⟩ = some (.int .i64 fl)
 c2 : w.cell? ⟨b, 2, none⟩ = some v
theorem Qc.next {w w' : World} {b : Nat} {wd fl : Int} {v : Value} (d : Qc w b wd fl v) (h : Below w.heap.size w w') : Qc w' b wd fl v :=
 ⟨Nat.lt_of_lt_of_le d.z h.size, (h.cell (by exact d.z)).trans d.c0, (h.cell (by exact d.z)).trans d.c1, (h.cell (by exact d.z)).trans d.c2⟩
theorem Qc.onlyO {w w' : World} {b : Nat} {wd fl : Int} {v : Value} {o : Option Nat} (d : Qc w b wd fl v) (h : OnlyO o w w') (hb : o ≠ some b) : Qc w' b wd fl v :=
 ⟨Nat.lt_of_lt_of_le d.z h.size, (h.cell (by exact d.z) (by exact hb)).trans d.c0, (h.cell (by exact d.z) (by exact hb)).trans d.c1, (h.cell (by exact d.z) (by exact hb)).trans d.c2⟩
theorem IFill.only {w w' : World} {g n k b : Nat} {xs : List Int} (f : IFill w g n xs k) (o : Only b w w') (hg : g < w.heap.size) (hb : g ≠ b) : IFill w' g n xs k :=
 ⟨fun j hj => ⟨by obtain ⟨z, hz⟩ := (f.any j hj).1; exact ⟨z, (o.cell (by exact hg) (by exact hb)).trans hz⟩, (o.frozen (by exact hg) (by exact hb)).trans (f.any j hj).2⟩, fun i hi hk => (o.cell (by exact hg) (by exact hb)).trans (f.got i hi hk)⟩
def inQ (lo x hi : Int) : Bool := decide (lo ≤ x) && decide (x ≤ hi)
theorem inQ_is {lo x hi : Int} {f : Bool} (h : inQ lo x hi = f) (w : World) : Calls Tryz.prog 48 #[.int .i64 x, .int .i64 lo, .int .i64 hi] w fun e w' => e = .returned (.bool f) ∧ w' = w := by subst h; exact in_any lo x hi w
def MemTo (xs : List Int) (k : Nat) : Prop := ∀ i (h : i < xs.length), i < k → (0 ≤ xs[i] ∧ xs[i] ≤ 1000000) ∧ (∀ j (hj : j < xs.length), j + 1 = i → xs[j] < xs[i])
theorem MemTo.zero (xs : List Int) : MemTo xs 0 := fun i h hk => by omega
theorem MemTo.next {xs : List Int} {k : Nat} (h : MemTo xs k) (hk : k < xs.length) (h1 : 0 ≤ xs[k] ∧ xs[k] ≤ 1000000) (h2 : ∀ j (hj : j < xs.length), j + 1 = k → xs[j] < xs[k]) : MemTo xs (k + 1) := by
 intro i hi hik
 by_cases e : i = k
 · subst e
   exact ⟨h1, h2⟩
 · exact h i hi (by omega)
/-- When a Place is right. -/
def PlOk (wd fl : Int) (xs : List Int) : Prop := openB wd = true ∧ w10B fl = true ∧ xs.length ≤ 50 ∧ MemTo xs xs.length
open Classical in
noncomputable def plB (wd fl : Int) (xs : List Int) : Bool := decide (PlOk wd fl xs)
open Classical in
theorem pl_yes {wd fl : Int} {xs : List Int} (h : plB wd fl xs = true) : PlOk wd fl xs := by
 unfold plB at h
 exact of_decide_eq_true h
open Classical in
theorem pl_true {wd fl : Int} {xs : List Int} (h : PlOk wd fl xs) : plB wd fl xs = true := by
 unfold plB
 exact decide_eq_true h
open Classical in
theorem pl_false {wd fl : Int} {xs : List Int} (h : ¬ PlOk wd fl xs) : plB wd fl xs = false := by
 unfold plB
 exact decide_eq_false h
set_option maxHeartbeats 4000000 in
theorem specPlaceOk_any {wd fl : Int} {w : World} {a : Option Addr} (cap : Nat) {xs : List Int} (smp : ISmp w.heap.size w a xs) : Calls Tryz.prog 96 #[.agg #[.int .i64 wd, .int .i64 fl, .slice a xs.length cap]] w fun e w' => e = .returned (.bool (plB wd fl xs)) ∧ Below w.heap.size w w' := by
 cases h0 : openB wd
 · rw [pl_false (fun h => by have q := h.1; rw [h0] at q; cases q)]
   go_enter Tryz.func96, Tryz.ntmps96
   go_wp2_with (first
     | (go_at_call 146; refine (sBig_is h0 _).mono ?_; rintro e w2 ⟨rfl, rfl⟩))
   go_ret
   exact ⟨rfl, by go_grown⟩
 cases h1 : w10B fl
 · rw [pl_false (fun h => by have q := h.2.1; rw [h1] at q; cases q)]
   go_enter Tryz.func96, Tryz.ntmps96
   go_wp2_with (first
     | (go_at_call 146; refine (sBig_is h0 _).mono ?_; rintro e w2 ⟨rfl, rfl⟩)
     | (go_at_call 122; refine (sWin_is h1 _).mono ?_; rintro e w2 ⟨rfl, rfl⟩))
   go_ret
   exact ⟨rfl, by go_grown⟩
 by_cases h2 : (50 : Int) < (xs.length : Int)
 · rw [pl_false (fun h => by have := h.2.2.1; omega)]
   go_enter Tryz.func96, Tryz.ntmps96
   go_wp2_with (first
     | (go_at_call 146; refine (sBig_is h0 _).mono ?_; rintro e w2 ⟨rfl, rfl⟩)
     | (go_at_call 122; refine (sWin_is h1 _).mono ?_; rintro e w2 ⟨rfl, rfl⟩))
   go_ret
   exact ⟨rfl, by go_grown⟩
 have h2' : decide ((50 : Int) < (xs.length : Int)) = false := decide_eq_false h2
 obtain ⟨f, hf⟩ : ∃ f, plB wd fl xs = f := ⟨_, rfl⟩
 rw [hf]
 go_enter Tryz.func96, Tryz.ntmps96
 go_upto_region 3 with (first
   | (go_at_call 146; refine (sBig_is h0 _).mono ?_; rintro e w2 ⟨rfl, rfl⟩)
   | (go_at_call 122; refine (sWin_is h1 _).mono ?_; rintro e w2 ⟨rfl, rfl⟩))
 obtain ⟨x, hx⟩ : ∃ x, x = w.alloc (.cells #[.int .i64 wd, .int .i64 fl, .slice a xs.length cap] 50) := ⟨_, rfl⟩
 rw [← hx]
 have hbx : Below w.heap.size w x := by rw [hx]; go_grown
 have p2 : x.cell? ⟨w.heap.size, 2, none⟩ = some (.slice a xs.length cap) := by rw [hx]; go_simp
 have hxz : w.heap.size < x.heap.size := by rw [hx]; simp
 clear hx
 go_wp2
 go_loopw [3] (fun i wr => ∃ (k : Nat), i = .int .i64 k ∧ k ≤ xs.length ∧ MemTo xs k ∧ Below x.heap.size x wr) (fun i _ => xs.length - (intOf i).toNat)
 case atStart => exact ⟨0, rfl, by omega, MemTo.zero xs, Below.refl _ _⟩
 case round =>
   obtain ⟨k, rfl, hk, hM, hbr⟩ := hrel
   have p2 : wr.cell? ⟨w.heap.size, 2, none⟩ = some (.slice a xs.length cap) := (hbr.cell (by exact hxz)).trans p2
   have hbx : Below w.heap.size w wr := below_two hbx hbr
   by_cases hlt : k < xs.length
   · have hlt' : (k : Int) < (xs.length : Int) := by omega
     have hk0 : (0 : Int) ≤ (k : Int) := by omega
     cases h3 : inQ 0 xs[k] 1000000
     · obtain rfl : f = false := by
         rw [← hf]
         refine pl_false (fun h => ?_)
         have := (h.2.2.2 k hlt hlt).1
         unfold inQ at h3
         simp [this.1, this.2] at h3
       obtain ⟨b, off, rfl, hb, c0⟩ := smp.at hbx k hlt
       obtain ⟨y, hy⟩ : ∃ y, xs[k] = y := ⟨_, rfl⟩
       rw [hy] at c0 h3
       clear hy hf
       go_wp2
       go_quiet (first | (go_at_call 48; exact Calls.quiet_of_same (inQ_is h3 _)))
       go_wp2
       go_ret
       exact ⟨rfl, below_drews hbx _⟩
     have h3n : 0 ≤ xs[k] ∧ xs[k] ≤ 1000000 := by
       unfold inQ at h3
       simp only [Bool.and_eq_true, decide_eq_true_eq] at h3
       exact h3
     by_cases hz : k = 0
     · subst hz
       have hN : MemTo xs 1 := hM.next hlt h3n (fun j hj e => by omega)
       obtain ⟨b, off, rfl, hb, c0⟩ := smp.at hbx 0 hlt
       have hlt0 : (0 : Int) < (xs.length : Int) := by omega
       obtain ⟨y, hy⟩ : ∃ y, xs[0] = y := ⟨_, rfl⟩
       rw [hy] at c0 h3
       rw [Nat.add_zero] at c0
       clear hy h3n
       go_wp2
       go_quiet (first | (go_at_call 48; exact Calls.quiet_of_same (inQ_is h3 _)))
       go_wp2
       go_roundw
       case rel => exact ⟨1, by go_num, by omega, hN, below_drews hbr _⟩
       case measure => first | (simp [intOf]; done) | (simp [intOf]; omega)
     obtain ⟨l, rfl⟩ : ∃ l, k = l + 1 := ⟨k - 1, by omega⟩
     have hl1 : IntKind.i64.wrap ((l : Int) + 1 - 1) = (l : Int) := by rw [IntKind.wrap_i64]; omega
     have hl2 : IntKind.i64.wrap (((l + 1 : Nat) : Int) - 1) = (l : Int) := by rw [IntKind.wrap_i64]; omega
     have hl3 : (l : Int) < (xs.length : Int) := by omega
     have hl4 : (0 : Int) < ((l + 1 : Nat) : Int) := by omega
     have hl5 : (0 : Int) < (l : Int) + 1 := by omega
     have hl6 : IntKind.i64.wrap (l : Int) = (l : Int) := by rw [IntKind.wrap_i64]; omega
     obtain ⟨b, off, rfl, hb, c0⟩ := smp.at hbx (l + 1) hlt
     obtain ⟨b', off', e', hb', c1⟩ := smp.at hbx l (by omega)
     injection e' with e'
     injection e' with e1 e2
     subst e1 e2
     obtain ⟨y, hy⟩ : ∃ y, xs[l + 1] = y := ⟨_, rfl⟩
     obtain ⟨z, hzz⟩ : ∃ z, xs[l] = z := ⟨_, rfl⟩
     by_cases h4 : y ≤ z
     · obtain rfl : f = false := by
         rw [← hf]
         refine pl_false (fun h => ?_)
         have := (h.2.2.2 (l + 1) hlt hlt).2 l (by omega) rfl
         rw [hy, hzz] at this
         omega
       rw [hy] at c0 h3
       rw [hzz] at c1
       clear hy hzz hf h3n
       go_wp2
       go_quiet (first | (go_at_call 48; exact Calls.quiet_of_same (inQ_is h3 _)))
       go_wp2
       go_ret
       exact ⟨rfl, below_drews hbx _⟩
     · have hN : MemTo xs (l + 1 + 1) := hM.next hlt h3n (fun j hj e => by obtain rfl : j = l := (by omega); rw [hy, hzz]; omega)
       rw [hy] at c0 h3
       rw [hzz] at c1
       clear hy hzz h3n
       go_wp2
       go_quiet (first | (go_at_call 48; exact Calls.quiet_of_same (inQ_is h3 _)))
       go_wp2
       go_roundw
       case rel => exact ⟨l + 1 + 1, by go_num, by omega, hN, below_drews hbr _⟩
       case measure => first | (simp [intOf]; done) | (simp [intOf]; omega)
   · have e : k = xs.length := by omega
     subst e
     obtain rfl : f = true := by
       rw [← hf]
       exact pl_true ⟨h0, h1, by omega, hM⟩
     go_wp2
     go_ret
     exact ⟨rfl, hbx⟩
theorem iwin_any (x : Int) (w : World) : Calls Tryz.prog 118 #[.int .i64 x] w fun e w' => e = .returned (.bool (winB x)) ∧ w' = w := by
 go_enter Tryz.func118, Tryz.ntmps118
 go_wp2_with (first | (go_at_call 62; refine (iwithin_any _ _ _ _).mono ?_; rintro e w2 ⟨rfl, rfl⟩))
 go_ret
 exact ⟨rfl, rfl⟩
theorem ifull_any (r u l t : Int) (w : World) (hu : 0 ≤ u ∧ u ≤ 1000000000) : Calls Tryz.prog 192 #[.agg #[.int .i64 r, .int .i64 u, .int .i64 l, .int .i64 t]] w fun e w' => e = .returned (.int .i64 (1000000000 * u)) ∧ Below w.heap.size w w' := by
 have e0 : IntKind.i64.wrap (u * 1000000000) = u * 1000000000 := by rw [IntKind.wrap_i64]; omega
 rw [Int.mul_comm]
 go_enter Tryz.func192, Tryz.ntmps192
 go_wp2
 go_ret
 exact ⟨rfl, by go_grown⟩
theorem four_next {w w2 : World} {b : Nat} {x y z v : Value} (h : w.cell? ⟨b, 0, none⟩ = some x ∧ w.cell? ⟨b, 1, none⟩ = some y ∧ w.cell? ⟨b, 2, none⟩ = some z ∧ w.cell? ⟨b, 3, none⟩ = some v) (hb : Below w.heap.size w w2) (h0 : b < w.heap.size) :
   w2.cell? ⟨b, 0, none⟩ = some x ∧ w2.cell? ⟨b, 1, none⟩ = some y ∧ w2.cell? ⟨b, 2, none⟩ = some z ∧ w2.cell? ⟨b, 3, none⟩ = some v :=
 ⟨(below_cells4 hb _ _ h0).trans h.1, (below_cells4 hb _ _ h0).trans h.2.1, (below_cells4 hb _ _ h0).trans h.2.2.1, (below_cells4 hb _ _ h0).trans h.2.2.2⟩
theorem bok_order (r u l t : Int) : bokB r u l t = (((rateB r && winB u) && timeB t) && lvlB u l) := by
 unfold bokB
 cases rateB r <;> cases winB u <;> cases timeB t <;> cases lvlB u l <;> rfl
set_option maxHeartbeats 2000000 in
theorem implBucketOk_any (r u l t : Int) (w : World) : Calls Tryz.prog 183 #[.agg #[.int .i64 r, .int .i64 u, .int .i64 l, .int .i64 t]] w fun e w' => e = .returned (.bool (bokB r u l t)) ∧ Below w.heap.size w w' := by
 rw [bok_order]
 cases h1 : rateB r
 · show Calls _ _ _ _ fun e w' => e = .returned (.bool false) ∧ Below w.heap.size w w'
   go_enter Tryz.func183, Tryz.ntmps183
   go_wp2
   refine wp_region_held_drew (S := fun w' => w'.cell? ⟨w.heap.size, 0, none⟩ = some (.int .i64 r) ∧ w'.cell? ⟨w.heap.size, 1, none⟩ = some (.int .i64 u) ∧ w'.cell? ⟨w.heap.size, 2, none⟩ = some (.int .i64 l) ∧ w'.cell? ⟨w.heap.size, 3, none⟩ = some (.int .i64 t)) (by kernel_rfl) (⟨by go_simp, by go_simp, by go_simp, by go_simp⟩) (fun hS => ?_)
   refine anyR 0 rfl ?_
   refine anyR 1 rfl ?_
   refine anyC 2 rfl fun K hK => ?_
   go_simp
   (refine (irate_any _ _).mono ?_; rintro e w2 ⟨rfl, rfl⟩; rw [h1])
   refine hK.out _ _ ‹_› fun _ => ?_
   try simp only [nrm]
   refine anyR 3 rfl ?_
   refine anyS 4 rfl ?_
   refine anyS 5 rfl ?_
   refine anyS 6 rfl ?_
   refine anyR 7 rfl ?_
   refine anyR 8 rfl ?_
   refine anyS 9 rfl ?_
   refine anyS 10 rfl ?_
   refine anyS 11 rfl ?_
   refine anyR 12 rfl ?_
   refine anyR 13 rfl ?_
   refine anyS 14 rfl ?_
   refine anyS 15 rfl ?_
   refine anyS 16 rfl ?_
   refine anyS 17 rfl ?_
   refine anyS 18 rfl ?_
   refine anyR 19 rfl ?_
   refine anyR 20 rfl ?_
   refine wpAnyH_done (by kernel_rfl) ?_ _
   go_wp2
   go_ret
   exact ⟨rfl, by go_grown⟩
 · cases h2 : winB u
   · show Calls _ _ _ _ fun e w' => e = .returned (.bool false) ∧ Below w.heap.size w w'
     go_enter Tryz.func183, Tryz.ntmps183
     go_wp2
     refine wp_region_held_drew (S := fun w' => w'.cell? ⟨w.heap.size, 0, none⟩ = some (.int .i64 r) ∧ w'.cell? ⟨w.heap.size, 1, none⟩ = some (.int .i64 u) ∧ w'.cell? ⟨w.heap.size, 2, none⟩ = some (.int .i64 l) ∧ w'.cell? ⟨w.heap.size, 3, none⟩ = some (.int .i64 t)) (by kernel_rfl) (⟨by go_simp, by go_simp, by go_simp, by go_simp⟩) (fun hS => ?_)
     refine anyR 0 rfl ?_
     refine anyR 1 rfl ?_
     refine anyC 2 rfl fun K hK => ?_
     go_simp
     (refine (irate_any _ _).mono ?_; rintro e w2 ⟨rfl, rfl⟩; rw [h1])
     refine hK.out _ _ ‹_› fun _ => ?_
     try simp only [nrm]
     refine anyR 3 rfl ?_
     refine anyR 4 rfl ?_
     refine anyR 5 rfl ?_
     refine anyC 6 rfl fun K hK => ?_
     go_simp
     (refine (iwin_any _ _).mono ?_; rintro e w2 ⟨rfl, rfl⟩; rw [h2])
     refine hK.out _ _ ‹_› fun _ => ?_
     try simp only [nrm]
     refine anyR 7 rfl ?_
     refine anyR 8 rfl ?_
     refine anyS 9 rfl ?_
     refine anyS 10 rfl ?_
     refine anyS 11 rfl ?_
     refine anyR 12 rfl ?_
     refine anyR 13 rfl ?_
     refine anyS 14 rfl ?_
     refine anyS 15 rfl ?_
     refine anyS 16 rfl ?_
     refine anyS 17 rfl ?_
     refine anyS 18 rfl ?_
     refine anyR 19 rfl ?_
     refine anyR 20 rfl ?_
     refine wpAnyH_done (by kernel_rfl) ?_ _
     go_wp2
     go_ret
     exact ⟨rfl, by go_grown⟩
   · cases h3 : timeB t
     · show Calls _ _ _ _ fun e w' => e = .returned (.bool false) ∧ Below w.heap.size w w'
       go_enter Tryz.func183, Tryz.ntmps183
       go_wp2
       refine wp_region_held_drew (S := fun w' => w'.cell? ⟨w.heap.size, 0, none⟩ = some (.int .i64 r) ∧ w'.cell? ⟨w.heap.size, 1, none⟩ = some (.int .i64 u) ∧ w'.cell? ⟨w.heap.size, 2, none⟩ = some (.int .i64 l) ∧ w'.cell? ⟨w.heap.size, 3, none⟩ = some (.int .i64 t)) (by kernel_rfl) (⟨by go_simp, by go_simp, by go_simp, by go_simp⟩) (fun hS => ?_)
       refine anyR 0 rfl ?_
       refine anyR 1 rfl ?_
       refine anyC 2 rfl fun K hK => ?_
       go_simp
       (refine (irate_any _ _).mono ?_; rintro e w2 ⟨rfl, rfl⟩; rw [h1])
       refine hK.out _ _ ‹_› fun _ => ?_
       try simp only [nrm]
       refine anyR 3 rfl ?_
       refine anyR 4 rfl ?_
       refine anyR 5 rfl ?_
       refine anyC 6 rfl fun K hK => ?_
       go_simp
       (refine (iwin_any _ _).mono ?_; rintro e w2 ⟨rfl, rfl⟩; rw [h2])
       refine hK.out _ _ ‹_› fun _ => ?_
       try simp only [nrm]
       refine anyR 7 rfl ?_
       refine anyR 8 rfl ?_
       refine anyR 9 rfl ?_
       refine anyR 10 rfl ?_
       refine anyC 11 rfl fun K hK => ?_
       go_simp
       (refine (itime_any _ _).mono ?_; rintro e w2 ⟨rfl, rfl⟩; rw [h3])
       refine hK.out _ _ ‹_› fun _ => ?_
       try simp only [nrm]
       refine anyR 12 rfl ?_
       refine anyR 13 rfl ?_
       refine anyS 14 rfl ?_
       refine anyS 15 rfl ?_
       refine anyS 16 rfl ?_
       refine anyS 17 rfl ?_
       refine anyS 18 rfl ?_
       refine anyR 19 rfl ?_
       refine anyR 20 rfl ?_
       refine wpAnyH_done (by kernel_rfl) ?_ _
       go_wp2
       go_ret
       exact ⟨rfl, by go_grown⟩
     · show Calls _ _ _ _ fun e w' => e = .returned (.bool (lvlB u l)) ∧ Below w.heap.size w w'
       go_enter Tryz.func183, Tryz.ntmps183
       go_wp2
       refine wp_region_held_drew (S := fun w' => w'.cell? ⟨w.heap.size, 0, none⟩ = some (.int .i64 r) ∧ w'.cell? ⟨w.heap.size, 1, none⟩ = some (.int .i64 u) ∧ w'.cell? ⟨w.heap.size, 2, none⟩ = some (.int .i64 l) ∧ w'.cell? ⟨w.heap.size, 3, none⟩ = some (.int .i64 t)) (by kernel_rfl) (⟨by go_simp, by go_simp, by go_simp, by go_simp⟩) (fun hS => ?_)
       refine anyR 0 rfl ?_
       refine anyR 1 rfl ?_
       refine anyC 2 rfl fun K hK => ?_
       go_simp
       (refine (irate_any _ _).mono ?_; rintro e w2 ⟨rfl, rfl⟩; rw [h1])
       refine hK.out _ _ ‹_› fun _ => ?_
       try simp only [nrm]
       refine anyR 3 rfl ?_
       refine anyR 4 rfl ?_
       refine anyR 5 rfl ?_
       refine anyC 6 rfl fun K hK => ?_
       go_simp
       (refine (iwin_any _ _).mono ?_; rintro e w2 ⟨rfl, rfl⟩; rw [h2])
       refine hK.out _ _ ‹_› fun _ => ?_
       try simp only [nrm]
       refine anyR 7 rfl ?_
       refine anyR 8 rfl ?_
       refine anyR 9 rfl ?_
       refine anyR 10 rfl ?_
       refine anyC 11 rfl fun K hK => ?_
       go_simp
       (refine (itime_any _ _).mono ?_; rintro e w2 ⟨rfl, rfl⟩; rw [h3])
       refine hK.out _ _ ‹_› fun _ => ?_
       try simp only [nrm]
       refine anyR 12 rfl ?_
       refine anyR 13 rfl ?_
       refine anyR 14 rfl ?_
       refine anyR 15 rfl ?_
       refine anyR 16 rfl ?_
       refine anyC 17 rfl fun K hK => ?_
       go_simp
       (refine (ifull_any r u l t _ (win_num h2)).mono ?_; rintro e w3 ⟨rfl, hb3⟩; have hS := four_next hS hb3 (by simp); simp only [])
       refine hK.out _ _ ‹_› fun _ => ?_
       try simp only [nrm]
       refine anyC 18 rfl fun K hK => ?_
       go_simp
       (refine (iwithin_any _ _ _ _).mono ?_; rintro e w4 ⟨rfl, rfl⟩; rw [show (decide (0 ≤ l) && decide (l ≤ 1000000000 * u)) = lvlB u l from rfl])
       refine hK.out _ _ ‹_› fun _ => ?_
       try simp only [nrm]
       refine anyR 19 rfl ?_
       refine anyR 20 rfl ?_
       refine wpAnyH_done (by kernel_rfl) ?_ _
       go_wp2
       go_ret
       exact ⟨rfl, below_two (by go_grown) hb3⟩
/-- A bucket in a variable, and the answer's place. -/
structure Pair4 (w wd : World) (a c : Nat) (r u l t : Int) : Prop where
 c0 : wd.cell? ⟨a, 0, none⟩ = some (.int .i64 r)
 c1 : wd.cell? ⟨a, 1, none⟩ = some (.int .i64 u)
 c2 : wd.cell? ⟨a, 2, none⟩ = some (.int .i64 l)
 c3 : wd.cell? ⟨a, 3, none⟩ = some (.int .i64 t)
 d0 : wd.cell? ⟨c, 0, none⟩ = some (.int .i64 0)
 d1 : wd.cell? ⟨c, 1, none⟩ = some (.int .i64 0)
 d2 : wd.cell? ⟨c, 2, none⟩ = some (.int .i64 0)
 d3 : wd.cell? ⟨c, 3, none⟩ = some (.int .i64 0)
 fa : ∀ o : Nat, wd.frozen? ⟨a, o, none⟩ = false
 fb : ∀ o : Nat, wd.frozen? ⟨c, o, none⟩ = false
 hb : Below w.heap.size w wd
 y0 : a < wd.heap.size
 y1 : c < wd.heap.size
 ya : w.heap.size ≤ a
 ne : a ≠ c
theorem Pair4.next {w wd w' : World} {a c : Nat} {r u l t : Int} (h : Pair4 w wd a c r u l t) (k : Below wd.heap.size wd w') : Pair4 w w' a c r u l t :=
 have e := below_cells4 k
 have f := below_frozens4 k
 ⟨(e _ _ h.y0).trans h.c0, (e _ _ h.y0).trans h.c1, (e _ _ h.y0).trans h.c2, (e _ _ h.y0).trans h.c3, (e _ _ h.y1).trans h.d0, (e _ _ h.y1).trans h.d1, (e _ _ h.y1).trans h.d2, (e _ _ h.y1).trans h.d3,
   fun o => (f _ _ h.y0).trans (h.fa o), fun o => (f _ _ h.y1).trans (h.fb o), below_two h.hb k, Nat.lt_of_lt_of_le h.y0 k.size, Nat.lt_of_lt_of_le h.y1 k.size, h.ya, h.ne⟩
theorem far4 {w : World} {b c i j : Nat} {v : Value} (h : b ≠ c) : (w.setCell ⟨b, i, none⟩ v).cell? ⟨c, j, none⟩ = w.cell? ⟨c, j, none⟩ := by
 apply World.cell?_setCell_other
 intro e
 injection e with e _ _
 exact h e
theorem Pair4.set2 {w wd : World} {a c : Nat} {r u l t : Int} (h : Pair4 w wd a c r u l t) (x : Int) : Pair4 w (wd.setCell ⟨a, 2, none⟩ (.int .i64 x)) a c r u x t :=
 ⟨(set_other4 (by decide)).trans h.c0, (set_other4 (by decide)).trans h.c1, set_same4 _ h.c2, (set_other4 (by decide)).trans h.c3, (far4 h.ne).trans h.d0, (far4 h.ne).trans h.d1, (far4 h.ne).trans h.d2, (far4 h.ne).trans h.d3,
   fun o => by simp [h.fa], fun o => by simp [h.fb], h.hb.setCell (by exact h.ya) _, by simp; exact h.y0, by simp; exact h.y1, h.ya, h.ne⟩
theorem Pair4.least {w wd : World} {a c : Nat} {r u l t x y : Int} (h : Pair4 w wd a c r u l t) : Pair4 w (wd.setCell ⟨a, 2, none⟩ (.int .i64 (if y < x then y else x))) a c r u (min x y) t := by
 have e : (if y < x then y else x) = min x y := by
   by_cases k : y < x
   · rw [if_pos k, Int.min_eq_right (Int.le_of_lt k)]
   · rw [if_neg k, Int.min_eq_left (by omega)]
 rw [e]
 exact h.set2 _
theorem pair_new {w : World} {r u l t : Int} : Pair4 w ((w.alloc (.cells #[.int .i64 r, .int .i64 u, .int .i64 l, .int .i64 t] 53)).alloc (.cells #[.int .i64 0, .int .i64 0, .int .i64 0, .int .i64 0] 53)) w.heap.size (w.heap.size + 1) r u l t :=
 ⟨by go_simp, by go_simp, by go_simp, by go_simp, by go_simp, by go_simp, by go_simp, by go_simp, fun o => by go_simp, fun o => by go_simp, by go_grown, by simp; omega, by simp, Nat.le_refl _, by omega⟩
def bringX (f : Bool) (P u : Int) : Int := if f = true then P else 1000000000 * u
set_option maxHeartbeats 4000000 in
theorem ifilled_late {r u l t now : Int} (w : World) (f : Bool) (P : Int) (h : bokB r u l t = true) (hn : timeB now = true) (hlt : t < now) (M1 : Hid (mdOk r (now - t) 1 = f)) (M2 : Hid (mdQ r (now - t) 1 = P)) (X : Int) (hX : Hid (bringX f P u = X)) (hX0 : 0 ≤ X) (hX1 : X ≤ 9223372036854775807) :
   Calls Tryz.prog 200 #[.agg #[.int .i64 r, .int .i64 u, .int .i64 l, .int .i64 t], .int .i64 now] w fun e w' => e = .returned (.agg #[.int .i64 r, .int .i64 u, .int .i64 (min (satAdd l X) (1000000000 * u)), .int .i64 now]) ∧ Below w.heap.size w w' := by
 obtain ⟨nr, nu, nl, nt⟩ := bok_num h
 have nn := tim_num hn
 go_enter Tryz.func200, Tryz.ntmps200
 go_upto_if 23 with (first
   | (go_at_call 201; refine (implMulDiv_any _ _ _ _ (by omega) (by omega) (by omega)).mono ?_; rintro e w2 ⟨rfl, hb2⟩; rw [M1.out, M2.out]; have D : Hid (Pair4 w w2 w.heap.size (w.heap.size + 1) r u l t) := pair_new.next hb2; obtain ⟨c0, c1, c2, c3, d0, d1, d2, d3, fa, fb, hbw, y0, y1, ya, ne⟩ := D.out; clear hb2))
 go_cut [5] from 22 (fun s wd => s = .int .i64 X ∧ Pair4 w wd w.heap.size (w.heap.size + 1) r u l t)
 case first =>
   cases f
   · rw [Bool.not_false]
     go_wp2_with (first
       | (go_at_call 192; refine (ifull_any _ _ _ _ _ nu).mono ?_; rintro e w5 ⟨rfl, hb5⟩; have D5 : Hid (Pair4 w w5 w.heap.size (w.heap.size + 1) r u l t) := D.out.next hb5))
     go_meet
     exact ⟨by rw [← hX.out]; rfl, D5.out⟩
   · rw [Bool.not_true]
     go_wp2
     go_meet
     exact ⟨by rw [← hX.out]; rfl, D.out⟩
 case rest =>
 clear D c0 c1 c2 c3 d0 d1 d2 d3 fa fb hbw y0 y1 ya ne
 obtain ⟨rfl, d⟩ := hcut
 have D : Hid (Pair4 w wc w.heap.size (w.heap.size + 1) r u l t) := d
 obtain ⟨c0, c1, c2, c3, d0, d1, d2, d3, fa, fb, hbw, y0, y1, ya, ne⟩ := d
 go_upto_region 6 with fail
 go_cut [] from 22 (fun wd => Pair4 w wd w.heap.size (w.heap.size + 1) r u (min (satAdd l X) (1000000000 * u)) t)
 case first =>
   go_region_with
     (first
       | (go_at_call 202; refine (implAdd_any _ _ _ (by omega) (by omega) (by omega) (by omega)).mono ?_; rintro e w3 ⟨rfl, rfl⟩)
       | (go_at_call 192; refine (ifull_any _ _ _ _ _ nu).mono ?_; rintro e w4 ⟨rfl, hb4⟩; have D4 : Hid (Pair4 w w4 w.heap.size (w.heap.size + 1) r u l t) := D.out.next (below_two (w := wc) (by go_grown) hb4); have c0 := D4.out.c0; have c1 := D4.out.c1; have c2 := D4.out.c2; have c3 := D4.out.c3; have fa := D4.out.fa))
   all_goals (repeat go_step)
   all_goals go_meet
   all_goals exact D4.out.least
 case rest =>
 clear D c0 c1 c2 c3 d0 d1 d2 d3 fa fb hbw y0 y1 ya ne
 obtain ⟨c0, c1, c2, c3, d0, d1, d2, d3, fa, fb, hbw, y0, y1, ya, ne⟩ := hcut
 go_wp2
 refine bodyPost_ret (results_one rfl _ _ _ [.int .i64 r, .int .i64 u, .int .i64 (min (satAdd l X) (1000000000 * u)), .int .i64 now] rfl (cells_set4 (u0 := .int .i64 0) (u1 := .int .i64 0) (u2 := .int .i64 0) (u3 := .int .i64 0) _ _ _ _ ?_ ?_ ?_ ?_) Tryz.underlying53 rfl (by kernel_rfl)) rfl ?_
 · go_simp
 · go_simp
 · go_simp
 · go_simp
 exact ⟨rfl, by go_grown⟩
set_option maxHeartbeats 1000000 in
theorem ifilled_any {r u l t now : Int} (w : World) (h : bokB r u l t = true) (hn : timeB now = true) :
   Calls Tryz.prog 200 #[.agg #[.int .i64 r, .int .i64 u, .int .i64 l, .int .i64 t], .int .i64 now] w fun e w' => e = .returned (.agg #[.int .i64 r, .int .i64 u, .int .i64 (fillL r u l t now), .int .i64 (fillT t now)]) ∧ Below w.heap.size w w' := by
 obtain ⟨nr, nu, nl, nt⟩ := bok_num h
 have nn := tim_num hn
 by_cases hle : now ≤ t
 · have e1 : fillL r u l t now = l := if_pos hle
   have e2 : fillT t now = t := if_pos hle
   rw [e1, e2]
   go_enter Tryz.func200, Tryz.ntmps200
   go_wp2
   refine bodyPost_ret (results_one rfl _ _ _ [.int .i64 r, .int .i64 u, .int .i64 l, .int .i64 t] rfl (cells_four (by go_simp) (by go_simp) (by go_simp) (by go_simp)) Tryz.underlying53 rfl (by kernel_rfl)) rfl ?_
   exact ⟨rfl, by go_grown⟩
 · have e1 : fillL r u l t now = min (1000000000 * u) (l + r * (now - t)) := if_neg hle
   have e2 : fillT t now = now := if_neg hle
   rw [e1, e2]
   obtain ⟨m1, m2⟩ := md_one nr.1 (show 0 ≤ now - t by omega)
   have hP0 : 0 ≤ r * (now - t) := Int.mul_nonneg nr.1 (by omega)
   by_cases hP : r * (now - t) ≤ 9223372036854775807
   · have m1' : mdOk r (now - t) 1 = true := m1.trans (decide_eq_true hP)
     rw [← fill_yes nu nl hP0 hP, Int.min_comm]
     exact ifilled_late w true _ h hn (by omega) m1' (m2 m1') _ rfl hP0 hP
   · have m1' : mdOk r (now - t) 1 = false := m1.trans (decide_eq_false hP)
     rw [← fill_no nu nl (by omega), Int.min_comm]
     exact ifilled_late w false _ h hn (by omega) m1' rfl _ rfl (by show 0 ≤ 1000000000 * u; omega) (by show 1000000000 * u ≤ _; omega)
set_option maxHeartbeats 2000000 in
theorem fillOf_any (r u l t : Int) (w : World) : Calls Tryz.prog 190 #[.agg #[.int .i64 r, .int .i64 u, .int .i64 l, .int .i64 t]] w fun e w' => e = .returned (.tuple #[.func (.func 200) #[.agg #[.int .i64 r, .int .i64 u, .int .i64 l, .int .i64 t]] #[], .bool (bokB r u l t)]) ∧ Below w.heap.size w w' := by
 have hmf : ∀ (fn : Fn) (first cap : Array Value) (w : World), (Instr.makeFunc fn first cap).run Tryz.prog w = .ok (.func fn first cap) w := fun _ _ _ _ => rfl
 go_enter Tryz.func190, Tryz.ntmps190
 go_wp2
 go_region_held3 (fun w' => w'.cell? ⟨w.heap.size, 0, none⟩ = some (.int .i64 r) ∧ w'.cell? ⟨w.heap.size, 1, none⟩ = some (.int .i64 u) ∧ w'.cell? ⟨w.heap.size, 2, none⟩ = some (.int .i64 l) ∧ w'.cell? ⟨w.heap.size, 3, none⟩ = some (.int .i64 t)) (go_keep)
   (first
     | (go_at_call 183; refine (implBucketOk_any _ _ _ _ _).mono ?_; rintro e w2 ⟨rfl, hb2⟩; have kc := below_cells4 hb2; have c0 : w2.cell? ⟨w.heap.size, 0, none⟩ = some (.int .i64 r) := (kc _ _ (by simp)).trans (by go_simp); have c1 : w2.cell? ⟨w.heap.size, 1, none⟩ = some (.int .i64 u) := (kc _ _ (by simp)).trans (by go_simp); have c2 : w2.cell? ⟨w.heap.size, 2, none⟩ = some (.int .i64 l) := (kc _ _ (by simp)).trans (by go_simp); have c3 : w2.cell? ⟨w.heap.size, 3, none⟩ = some (.int .i64 t) := (kc _ _ (by simp)).trans (by go_simp); have hbw := below_two (w := w) (by go_grown) hb2))
 all_goals go_wp2
 all_goals go_ret2
 all_goals exact ⟨rfl, by go_grown⟩
theorem pair_var {w w3 : World} {c : Nat} {r u l t : Int} (d0 : w3.cell? ⟨c, 0, none⟩ = some (.int .i64 0)) (d1 : w3.cell? ⟨c, 1, none⟩ = some (.int .i64 0)) (d2 : w3.cell? ⟨c, 2, none⟩ = some (.int .i64 0)) (d3 : w3.cell? ⟨c, 3, none⟩ = some (.int .i64 0))
   (fb : ∀ o : Nat, w3.frozen? ⟨c, o, none⟩ = false) (hb : Below w.heap.size w w3) (yc : c < w3.heap.size) : Pair4 w (w3.alloc (.cells #[.int .i64 r, .int .i64 u, .int .i64 l, .int .i64 t] 53)) w3.heap.size c r u l t :=
 have hr : Below w3.heap.size w3 (w3.alloc (.cells #[.int .i64 r, .int .i64 u, .int .i64 l, .int .i64 t] 53)) := by go_grown
 have e := below_cells4 hr
 have f := below_frozens4 hr
 ⟨by go_simp, by go_simp, by go_simp, by go_simp, (e _ _ yc).trans d0, (e _ _ yc).trans d1, (e _ _ yc).trans d2, (e _ _ yc).trans d3, fun o => by go_simp, fun o => (f _ _ yc).trans (fb o), below_two hb hr, by simp, by simp; omega, hb.size, by omega⟩
set_option maxHeartbeats 4000000 in
theorem implReset_any (r u l t r' u' now : Int) (w : World) : Calls Tryz.prog 169 #[.agg #[.int .i64 r, .int .i64 u, .int .i64 l, .int .i64 t], .int .i64 r', .int .i64 u', .int .i64 now] w fun e w' => e = .returned (bkV (resetOf r u l t r' u' now)) ∧ Below w.heap.size w w' := by
 cases h1 : bokB r u l t
 · rw [reset_no (by unfold resetOk; rw [h1]; rfl)]
   go_enter Tryz.func169, Tryz.ntmps169
   go_wp2_with (first
     | (go_at_call 190; refine (fillOf_any _ _ _ _ _).mono ?_; rintro e w2 ⟨rfl, hb2⟩; rw [h1]; have kc := below_cells4 hb2; have kf := below_frozens4 hb2; have zb := hb2.size; have hbw := start2 hb2; have y1 := size2b hb2; have y0 := Nat.lt_of_succ_lt y1))
   refine bodyPost_ret (results_one rfl _ _ _ [.int .i64 0, .int .i64 0, .int .i64 0, .int .i64 0] rfl (cells_set4 (u0 := .int .i64 0) (u1 := .int .i64 0) (u2 := .int .i64 0) (u3 := .int .i64 0) _ _ _ _ ?_ ?_ ?_ ?_) Tryz.underlying53 rfl (by kernel_rfl)) rfl ?_
   · go_simp
   · go_simp
   · go_simp
   · go_simp
   exact ⟨rfl, by go_grown⟩
 · cases h2 : timeB now
   · rw [reset_no (by unfold resetOk; rw [h2, Bool.and_false])]
     go_enter Tryz.func169, Tryz.ntmps169
     go_wp2_with (first
       | (go_at_call 190; refine (fillOf_any _ _ _ _ _).mono ?_; rintro e w2 ⟨rfl, hb2⟩; rw [h1]; have kc := below_cells4 hb2; have kf := below_frozens4 hb2; have zb := hb2.size; have hbw := start2 hb2; have y1 := size2b hb2; have y0 := Nat.lt_of_succ_lt y1)
       | (go_at_call 87; refine (itime_any _ _).mono ?_; rintro e w2 ⟨rfl, rfl⟩; rw [h2]))
     refine bodyPost_ret (results_one rfl _ _ _ [.int .i64 0, .int .i64 0, .int .i64 0, .int .i64 0] rfl (cells_set4 (u0 := .int .i64 0) (u1 := .int .i64 0) (u2 := .int .i64 0) (u3 := .int .i64 0) _ _ _ _ ?_ ?_ ?_ ?_) Tryz.underlying53 rfl (by kernel_rfl)) rfl ?_
     · go_simp
     · go_simp
     · go_simp
     · go_simp
     exact ⟨rfl, by go_grown⟩
   · cases h4 : rateB r'
     · rw [reset_no (by unfold resetOk; rw [h1, h4]; rfl)]
       go_enter Tryz.func169, Tryz.ntmps169
       go_wp2_with (first
         | (go_at_call 190; refine (fillOf_any _ _ _ _ _).mono ?_; rintro e w2 ⟨rfl, hb2⟩; rw [h1]; have kc := below_cells4 hb2; have kf := below_frozens4 hb2; have zb := hb2.size; have hbw := start2 hb2; have y1 := size2b hb2; have y0 := Nat.lt_of_succ_lt y1)
         | (go_at_call 87; refine (itime_any _ _).mono ?_; rintro e w2 ⟨rfl, rfl⟩; rw [h2])
         | (go_at_call 191; refine (irate_any _ _).mono ?_; rintro e w2 ⟨rfl, rfl⟩; rw [h4]))
       refine bodyPost_ret (results_one rfl _ _ _ [.int .i64 0, .int .i64 0, .int .i64 0, .int .i64 0] rfl (cells_set4 (u0 := .int .i64 0) (u1 := .int .i64 0) (u2 := .int .i64 0) (u3 := .int .i64 0) _ _ _ _ ?_ ?_ ?_ ?_) Tryz.underlying53 rfl (by kernel_rfl)) rfl ?_
       · go_simp
       · go_simp
       · go_simp
       · go_simp
       exact ⟨rfl, by go_grown⟩
     · cases h5 : winB u'
       · rw [reset_no (by unfold resetOk; rw [h1, h4, h5]; rfl)]
         go_enter Tryz.func169, Tryz.ntmps169
         go_wp2_with (first
           | (go_at_call 190; refine (fillOf_any _ _ _ _ _).mono ?_; rintro e w2 ⟨rfl, hb2⟩; rw [h1]; have kc := below_cells4 hb2; have kf := below_frozens4 hb2; have zb := hb2.size; have hbw := start2 hb2; have y1 := size2b hb2; have y0 := Nat.lt_of_succ_lt y1)
           | (go_at_call 87; refine (itime_any _ _).mono ?_; rintro e w2 ⟨rfl, rfl⟩; rw [h2])
           | (go_at_call 191; refine (irate_any _ _).mono ?_; rintro e w2 ⟨rfl, rfl⟩; rw [h4])
           | (go_at_call 118; refine (iwin_any _ _).mono ?_; rintro e w2 ⟨rfl, rfl⟩; rw [h5]))
         refine bodyPost_ret (results_one rfl _ _ _ [.int .i64 0, .int .i64 0, .int .i64 0, .int .i64 0] rfl (cells_set4 (u0 := .int .i64 0) (u1 := .int .i64 0) (u2 := .int .i64 0) (u3 := .int .i64 0) _ _ _ _ ?_ ?_ ?_ ?_) Tryz.underlying53 rfl (by kernel_rfl)) rfl ?_
         · go_simp
         · go_simp
         · go_simp
         · go_simp
         exact ⟨rfl, by go_grown⟩
       · have hw : resetOf r u l t r' u' now = (r', u', min (fillL r u l t now) (1000000000 * u'), fillT t now) := by unfold resetOf resetOk; rw [h1, h4, h5, h2]; rfl
         rw [hw]
         have n5 := win_num h5
         obtain ⟨nr, nu, nl, nt⟩ := bok_num h1
         have nf := fill_bounds (now := now) (t := t) nu nl nr.1
         clear hw
         go_enter Tryz.func169, Tryz.ntmps169
         go_upto_region 7 with (first
           | (go_at_call 190; refine (fillOf_any _ _ _ _ _).mono ?_; rintro e w2 ⟨rfl, hb2⟩; rw [h1]; have kc := below_cells4 hb2; have kf := below_frozens4 hb2; have zb := hb2.size; have hbw := start2 hb2; have y1 := size2b hb2; have y0 := Nat.lt_of_succ_lt y1)
           | (go_at_call 87; refine (itime_any _ _).mono ?_; rintro e w2 ⟨rfl, rfl⟩; rw [h2])
           | (go_at_call 191; refine (irate_any _ _).mono ?_; rintro e w2 ⟨rfl, rfl⟩; rw [h4])
           | (go_at_call 118; refine (iwin_any _ _).mono ?_; rintro e w2 ⟨rfl, rfl⟩; rw [h5])
           | (go_at_call 200; refine (ifilled_any _ h1 h2).mono ?_; rintro e w3 ⟨rfl, hb3⟩; have kc := fun b o h => (below_cells4 hb3 b o (Nat.lt_of_lt_of_le h zb)).trans (kc b o h); have kf := fun b o h => (below_frozens4 hb3 b o (Nat.lt_of_lt_of_le h zb)).trans (kf b o h); have hbw := below_two hbw hb3; have y1 := Nat.lt_of_lt_of_le y1 hb3.size; have y0 := Nat.lt_of_succ_lt y1))
         have D : Hid (Pair4 w _ w3.heap.size (w.heap.size + 1) r' u' (fillL r u l t now) (fillT t now)) := pair_var ((kc _ _ (by simp)).trans (by go_simp)) ((kc _ _ (by simp)).trans (by go_simp)) ((kc _ _ (by simp)).trans (by go_simp)) ((kc _ _ (by simp)).trans (by go_simp)) (fun o => (kf _ _ (by simp)).trans (by go_simp)) hbw y1
         clear kc kf zb
         go_cut [] from 42 (fun wd => Pair4 w wd w3.heap.size (w.heap.size + 1) r' u' (min (fillL r u l t now) (1000000000 * u')) (fillT t now))
         case first =>
           go_region_with
             (first
               | (go_at_call 192; refine (ifull_any _ _ _ _ _ n5).mono ?_; rintro e w4 ⟨rfl, hb4⟩; have D4 : Hid (Pair4 w w4 w3.heap.size (w.heap.size + 1) r' u' (fillL r u l t now) (fillT t now)) := D.out.next (below_two (by go_grown) hb4); have c0 := D4.out.c0; have c1 := D4.out.c1; have c2 := D4.out.c2; have c3 := D4.out.c3; have fa := D4.out.fa))
           all_goals (repeat go_step)
           all_goals go_meet
           all_goals exact D4.out.least
         case rest =>
         clear D
         obtain ⟨c0, c1, c2, c3, d0, d1, d2, d3, fa, fb, hbw, y0, y1, ya, ne⟩ := hcut
         go_wp2
         refine bodyPost_ret (results_one rfl _ _ _ [.int .i64 r', .int .i64 u', .int .i64 (min (fillL r u l t now) (1000000000 * u')), .int .i64 (fillT t now)] rfl (cells_set4 (u0 := .int .i64 0) (u1 := .int .i64 0) (u2 := .int .i64 0) (u3 := .int .i64 0) _ _ _ _ ?_ ?_ ?_ ?_) Tryz.underlying53 rfl (by kernel_rfl)) rfl ?_
         · go_simp
         · go_simp
         · go_simp
         · go_simp
         exact ⟨rfl, by go_grown⟩
/-- Only blocks of which p says so have turned. -/
structure OnlyP (p : Nat → Prop) (w w' : World) : Prop where
 os : w'.os = w.os
 tape : w'.tape = w.tape
 output : w'.output = w.output
 size : w.heap.size ≤ w'.heap.size
 block : ∀ k, k < w.heap.size → ¬ p k → w'.heap[k]? = w.heap[k]?
theorem OnlyP.of {o : Option Nat} {w w' : World} (h : OnlyO o w w') : OnlyP (fun k => o = some k) w w' := ⟨h.os, h.tape, h.output, h.size, h.block⟩
theorem OnlyP.refl (p : Nat → Prop) (w : World) : OnlyP p w w := ⟨rfl, rfl, rfl, Nat.le_refl _, fun _ _ _ => rfl⟩
theorem OnlyP.trans {p q : Nat → Prop} {u v w : World} (h : OnlyP p u v) (k : OnlyP q v w) : OnlyP (fun b => p b ∨ q b) u w :=
 ⟨k.os.trans h.os, k.tape.trans h.tape, k.output.trans h.output, Nat.le_trans h.size k.size, fun b hb hn => (k.block b (Nat.lt_of_lt_of_le hb h.size) (fun e => hn (.inr e))).trans (h.block b hb (fun e => hn (.inl e)))⟩
theorem OnlyP.of_below {p : Nat → Prop} {w w' : World} (h : Below w.heap.size w w') : OnlyP p w w' := ⟨h.os, h.tape, h.output, h.size, fun k hk _ => h.block k hk⟩
theorem OnlyP.weak {p q : Nat → Prop} {w w' : World} (h : OnlyP p w w') (hp : ∀ k, p k → q k) : OnlyP q w w' := ⟨h.os, h.tape, h.output, h.size, fun k hk hn => h.block k hk (fun e => hn (hp k e))⟩
theorem OnlyP.below {p : Nat → Prop} {w w' : World} {B : Nat} (h : OnlyP p w w') (hp : ∀ k, p k → B ≤ k) (hB : B ≤ w.heap.size) : Below B w w' :=
 ⟨h.os, h.tape, h.output, h.size, fun k hk => h.block k (by omega) (fun e => by have := hp k e; omega)⟩
theorem QFill.onlyP {w w' : World} {g n k : Nat} {xs : List Q4} {p : Nat → Prop} (f : QFill w g n xs k) (ho : OnlyP p w w') (hg : g < w.heap.size) (hn : ¬ p g) : QFill w' g n xs k := by
 have e := ho.block g hg hn
 have hc : ∀ j, w'.cell? ⟨g, j, none⟩ = w.cell? ⟨g, j, none⟩ := fun j => World.cell?_of_block e
 have hf : ∀ j, w'.frozen? ⟨g, j, none⟩ = w.frozen? ⟨g, j, none⟩ := fun j => World.frozen?_of_block e
 refine ⟨fun j hj => ?_, fun i hi hk => ?_⟩
 · rw [hc, hf]
   exact f.any j hj
 · rw [hc, hc, hc, hc]
   exact f.got i hi hk
theorem QV.onlyP {w w' : World} {lo : Nat} {p : Nat → Prop} {v : Value} {xs : List Q4} (h : QV w lo v xs) (hb : OnlyP p w w') (hv : ∀ g, roomB v = some g → ¬ p g) : QV w' lo v xs := by
 rcases h.room with ⟨g, cap, rfl, h1, h2, f, hc⟩ | h
 · exact .inl ⟨g, _, rfl, h1, Nat.lt_of_lt_of_le h2 hb.size, f.onlyP hb h2 (hv g rfl), hc⟩
 · exact .inr h
theorem LV.onlyP {w w' : World} {lo : Nat} {p : Nat → Prop} {sT sO sP : Value} {T O P : List Q4} (h : LV w lo sT sO sP T O P) (hb : OnlyP p w w') (h1 : ∀ g, roomB sT = some g → ¬ p g) (h2 : ∀ g, roomB sO = some g → ¬ p g) (h3 : ∀ g, roomB sP = some g → ¬ p g) : LV w' lo sT sO sP T O P :=
 ⟨h.t.onlyP hb h1, h.o.onlyP hb h2, h.p.onlyP hb h3, h.to, h.tp, h.op⟩
/-- The blocks of three lists. -/
def inL (sT sO sP : Value) (k : Nat) : Prop := roomB sT = some k ∨ roomB sO = some k ∨ roomB sP = some k
theorem LV.lo {w : World} {lo : Nat} {sT sO sP : Value} {T O P : List Q4} (h : LV w lo sT sO sP T O P) {k : Nat} (hk : inL sT sO sP k) : lo ≤ k ∧ k < w.heap.size := by
 rcases hk with e | e | e
 · exact h.t.own e
 · exact h.o.own e
 · exact h.p.own e
theorem set_three {w : World} {g : Nat} {u0 u1 u2 : Value} (a b c : Value) (h0 : w.cell? ⟨g, 0, none⟩ = some u0) (h1 : w.cell? ⟨g, 1, none⟩ = some u1) (h2 : w.cell? ⟨g, 2, none⟩ = some u2) :
   ∀ j v, [a, b, c][j]? = some v → (((w.setCell ⟨g, 0, none⟩ a).setCell ⟨g, 1, none⟩ b).setCell ⟨g, 2, none⟩ c).cell? ⟨g, j, none⟩ = some v := by
 have other : ∀ (x : World) (i k : Nat) (v : Value), i ≠ k → (x.setCell ⟨g, i, none⟩ v).cell? ⟨g, k, none⟩ = x.cell? ⟨g, k, none⟩ := fun x i k v h => World.cell?_setCell_other _ _ _ _ (fun e => h (by injection e with _ e _))
 intro j v hv
 match j, hv with
 | 0, hv => obtain rfl : a = v := by simpa using hv
            exact (other _ 2 0 _ (by decide)).trans ((other _ 1 0 _ (by decide)).trans (set_same _ h0))
 | 1, hv => obtain rfl : b = v := by simpa using hv
            exact (other _ 2 1 _ (by decide)).trans (set_same _ ((other _ 0 1 _ (by decide)).trans h1))
 | 2, hv => obtain rfl : c = v := by simpa using hv
            exact set_same _ ((other _ 1 2 _ (by decide)).trans ((other _ 0 2 _ (by decide)).trans h2))
theorem own_noneQ (w : World) (b : Nat) (hb : b ≤ w.heap.size) (t : TypeId) : (w.alloc (.cells #[] t)).ownsRow b t 4 (.slice (some ⟨w.heap.size, 0, none⟩) 0 0) 0 [] :=
 ⟨rfl, .inr ⟨w.heap.size, 0, #[], rfl, hb, heap_alloc_new _ _, Nat.le_refl _, by unfold maxLen; omega, rfl, rfl⟩⟩
theorem quad_news {w : World} {b off : Nat} {xs : List Q4} (h : Quad w.heap.size w (some ⟨b, off, none⟩) xs) : ∀ j u, (flatQ xs)[j]? = some u → w.cell? ((⟨b, off, none⟩ : Addr).add j) = some u := by
 intro j u hu
 have hj : j < xs.length * 4 := by
   rcases Nat.lt_or_ge j (xs.length * 4) with k | k
   · exact k
   · rw [List.getElem?_eq_none (by rw [flatQ_length]; exact k)] at hu
     cases hu
 have hadd : (⟨b, off, none⟩ : Addr).add j = ⟨b, off + j, none⟩ := by unfold Addr.add; split <;> simp_all
 rw [hadd]
 obtain ⟨f0, f1, f2, f3⟩ := flatQ_get xs (j / 4) (by omega)
 obtain ⟨c0, c1, c2, c3⟩ := h.cells (Below.refl _ _) (j / 4) (by omega)
 have hm : j % 4 = 0 ∨ j % 4 = 1 ∨ j % 4 = 2 ∨ j % 4 = 3 := by omega
 rcases hm with e | e | e | e
 · rw [show j / 4 * 4 = j by omega] at f0 c0
   rw [f0] at hu
   rw [c0]
   exact hu
 · rw [show j / 4 * 4 + 1 = j by omega] at f1
   rw [show off + j / 4 * 4 + 1 = off + j by omega] at c1
   rw [f1] at hu
   rw [c1]
   exact hu
 · rw [show j / 4 * 4 + 2 = j by omega] at f2
   rw [show off + j / 4 * 4 + 2 = off + j by omega] at c2
   rw [f2] at hu
   rw [c2]
   exact hu
 · rw [show j / 4 * 4 + 3 = j by omega] at f3
   rw [show off + j / 4 * 4 + 3 = off + j by omega] at c3
   rw [f3] at hu
   rw [c3]
   exact hu
/-- What the copy keeps: what came in and the answer's place; three rows so far. -/
structure CpSt (w W : World) (sT sO sP v0 v4 v8 : Value) (X0 X4 X8 : List Q4) : Prop where
 kept : Kept w [(w.heap.size, 0, sT), (w.heap.size, 1, sO), (w.heap.size, 2, sP), (w.heap.size + 1, 0, .slice none 0 0), (w.heap.size + 1, 1, .slice none 0 0), (w.heap.size + 1, 2, .slice none 0 0)] [w.heap.size + 1] W
 r0 : W.ownsRow (w.heap.size + 2) 110 4 v0 X0.length (flatQ X0)
 r4 : W.ownsRow (w.heap.size + 2) 53 4 v4 X4.length (flatQ X4)
 r8 : W.ownsRow (w.heap.size + 2) 53 4 v8 X8.length (flatQ X8)
 ap : ∀ g, v4.ownBlock = some g → v8.ownBlock ≠ some g
 sz : w.heap.size + 2 ≤ W.heap.size
section
variable {w W : World} {sT sO sP v0 v4 v8 : Value} {X0 X4 X8 : List Q4}
theorem CpSt.drew (d : CpSt w W sT sO sP v0 v4 v8 X0 X4 X8) : CpSt w W.drew sT sO sP v0 v4 v8 X0 X4 X8 := ⟨d.kept.drew, row_next d.r0 (Below.refl _ _).drew, row_next d.r4 (Below.refl _ _).drew, row_next d.r8 (Below.refl _ _).drew, d.ap, d.sz⟩
theorem CpSt.alloc0 (d : CpSt w W sT sO sP v0 v4 v8 X0 X4 X8) : CpSt w (W.alloc (.cells #[] 110)) sT sO sP (.slice (some ⟨W.heap.size, 0, none⟩) 0 0) v4 v8 [] X4 X8 :=
 ⟨d.kept.next (new_below _ _), own_noneQ W _ d.sz _, d.r4.alloc _, d.r8.alloc _, d.ap, Nat.le_trans d.sz (by simp)⟩
theorem CpSt.alloc4 (d : CpSt w W sT sO sP v0 v4 v8 X0 X4 X8) : CpSt w (W.alloc (.cells #[] 53)) sT sO sP v0 (.slice (some ⟨W.heap.size, 0, none⟩) 0 0) v8 X0 [] X8 :=
 ⟨d.kept.next (new_below _ _), d.r0.alloc _, own_noneQ W _ d.sz _, d.r8.alloc _, fun g e h => by
   have e1 : W.heap.size = g := Option.some.inj e
   have := (d.r8.lt g h).2
   omega, Nat.le_trans d.sz (by simp)⟩
theorem CpSt.alloc8 (d : CpSt w W sT sO sP v0 v4 v8 X0 X4 X8) : CpSt w (W.alloc (.cells #[] 53)) sT sO sP v0 v4 (.slice (some ⟨W.heap.size, 0, none⟩) 0 0) X0 X4 [] :=
 ⟨d.kept.next (new_below _ _), d.r0.alloc _, d.r4.alloc _, own_noneQ W _ d.sz _, fun g e h => by
   have e1 : W.heap.size = g := Option.some.inj h
   have := (d.r4.lt g e).2
   omega, Nat.le_trans d.sz (by simp)⟩
theorem CpSt.keeps (d : CpSt w W sT sO sP v0 v4 v8 X0 X4 X8) {W' : World} {row : Option Nat} (hg : W.grownBy W' row) (hr : ∀ g, row = some g → w.heap.size + 2 ≤ g) : Kept w [(w.heap.size, 0, sT), (w.heap.size, 1, sO), (w.heap.size, 2, sP), (w.heap.size + 1, 0, .slice none 0 0), (w.heap.size + 1, 1, .slice none 0 0), (w.heap.size + 1, 2, .slice none 0 0)] [w.heap.size + 1] W' := by
 refine d.kept.onlyO (OnlyO.of_grown hg) (fun j e => by have := hr j e; omega) (fun c hc e => ?_) (fun b hb e => ?_)
 · have := hr _ e
   simp only [List.mem_cons, List.not_mem_nil, or_false] at hc
   rcases hc with rfl | rfl | rfl | rfl | rfl | rfl <;> simp only at this <;> omega
 · have := hr _ e
   simp only [List.mem_cons, List.not_mem_nil, or_false] at hb
   omega
theorem CpSt.app0 (d : CpSt w W sT sO sP v0 v4 v8 X0 X4 X8) {W' : World} {v' : Value} {X : List Q4} (hg : W.grownBy W' v0.ownBlock) (ho : W'.ownsRow (w.heap.size + 2) 110 4 v' X.length (flatQ X)) : CpSt w W' sT sO sP v' v4 v8 X X4 X8 :=
 ⟨d.keeps hg (fun g e => (d.r0.lt g e).1), ho, d.r4.kept hg (rows_keep d.r4 d.r0 (by decide)), d.r8.kept hg (rows_keep d.r8 d.r0 (by decide)), d.ap, Nat.le_trans d.sz hg.size⟩
theorem CpSt.app4 (d : CpSt w W sT sO sP v0 v4 v8 X0 X4 X8) {W' : World} {v' : Value} {X : List Q4} (hg : W.grownBy W' v4.ownBlock) (ho : W'.ownsRow (w.heap.size + 2) 53 4 v' X.length (flatQ X)) (hb : v'.ownBlock = v4.ownBlock ∨ v'.ownBlock = some W.heap.size) : CpSt w W' sT sO sP v0 v' v8 X0 X X8 :=
 ⟨d.keeps hg (fun g e => (d.r4.lt g e).1), d.r0.kept hg (rows_keep d.r0 d.r4 (by decide)), ho, d.r8.kept hg (by
   cases h : v8.ownBlock with
   | none => exact .inl rfl
   | some g => exact .inr (fun e => d.ap g e.symm h)), fun g e h => by
   rcases hb with k | k
   · rw [k] at e
     exact d.ap g e h
   · rw [k] at e
     have e1 : W.heap.size = g := Option.some.inj e
     have := (d.r8.lt g h).2
     omega, Nat.le_trans d.sz hg.size⟩
theorem CpSt.app8 (d : CpSt w W sT sO sP v0 v4 v8 X0 X4 X8) {W' : World} {v' : Value} {X : List Q4} (hg : W.grownBy W' v8.ownBlock) (ho : W'.ownsRow (w.heap.size + 2) 53 4 v' X.length (flatQ X)) (hb : v'.ownBlock = v8.ownBlock ∨ v'.ownBlock = some W.heap.size) : CpSt w W' sT sO sP v0 v4 v' X0 X4 X :=
 ⟨d.keeps hg (fun g e => (d.r8.lt g e).1), d.r0.kept hg (rows_keep d.r0 d.r8 (by decide)), d.r4.kept hg (by
   cases h : v4.ownBlock with
   | none => exact .inl rfl
   | some g => exact .inr (fun e => d.ap g h e.symm)), ho, fun g e h => by
   rcases hb with k | k
   · rw [k] at h
     exact d.ap g e h
   · rw [k] at h
     have e1 : W.heap.size = g := Option.some.inj h
     have := (d.r4.lt g e).2
     omega, Nat.le_trans d.sz hg.size⟩
theorem CpSt.S (d : CpSt w W sT sO sP v0 v4 v8 X0 X4 X8) : W.cell? ⟨w.heap.size, 0, none⟩ = some sT ∧ W.cell? ⟨w.heap.size, 1, none⟩ = some sO ∧ W.cell? ⟨w.heap.size, 2, none⟩ = some sP := by
 obtain ⟨⟨_, k0⟩, ⟨_, k1⟩, ⟨_, k2⟩, _⟩ := d.kept.cells
 exact ⟨k0, k1, k2⟩
end
/-- Three lists in blocks of their own: an answer. -/
def CpPost (w : World) (T O P : List Q4) (e : Ending) (w' : World) : Prop := ∃ gT cT gO cO gP cP, e = .returned (lendV (some ⟨gT, 0, none⟩) T.length cT (some ⟨gO, 0, none⟩) O.length cO (some ⟨gP, 0, none⟩) P.length cP) ∧
  w'.ownsRow w.heap.size 110 4 (.slice (some ⟨gT, 0, none⟩) T.length cT) T.length (flatQ T) ∧ w'.ownsRow w.heap.size 53 4 (.slice (some ⟨gO, 0, none⟩) O.length cO) O.length (flatQ O) ∧
  w'.ownsRow w.heap.size 53 4 (.slice (some ⟨gP, 0, none⟩) P.length cP) P.length (flatQ P) ∧ gO ≠ gP ∧ Below w.heap.size w w'
theorem row_lowC {w : World} {b b' : Nat} {e : TypeId} {s n : Nat} {v : Value} {xs : List Value} (h : w.ownsRow b e s v n xs) (hb : b' ≤ b) : w.ownsRow b' e s v n xs :=
 ⟨h.1, by
   rcases h.2 with k | ⟨g, cap, cur, h1, h2, h3⟩
   · exact .inl k
   · exact .inr ⟨g, cap, cur, h1, by omega, h3⟩⟩
theorem own_someC {w : World} {base : Nat} {e : TypeId} {s n : Nat} {v : Value} {xs : List Value} (h : w.ownsRow base e s v n xs) (hn : 1 ≤ n) : ∃ g cap, v = .slice (some ⟨g, 0, none⟩) n cap ∧ base ≤ g ∧ g < w.heap.size := by
 rcases h.2 with ⟨rfl, h0⟩ | ⟨g, cap, cur, rfl, hb, _⟩
 · omega
 · exact ⟨g, cap, rfl, hb, (h.lt g rfl).2⟩
theorem cp_fin {w W : World} {sT sO sP : Value} {g3 k3 g7 k7 g11 k11 : Nat} {T O P : List Q4} (d : CpSt w W sT sO sP (.slice (some ⟨g3, 0, none⟩) T.length k3) (.slice (some ⟨g7, 0, none⟩) O.length k7) (.slice (some ⟨g11, 0, none⟩) P.length k11) T O P) {a b c : Value} :
   CpPost w T O P (.returned (lendV (some ⟨g3, 0, none⟩) T.length k3 (some ⟨g7, 0, none⟩) O.length k7 (some ⟨g11, 0, none⟩) P.length k11)) (((W.setCell ⟨w.heap.size + 1, 0, none⟩ a).setCell ⟨w.heap.size + 1, 1, none⟩ b).setCell ⟨w.heap.size + 1, 2, none⟩ c) :=
 ⟨g3, k3, g7, k7, g11, k11, rfl, row_lowC (row_set (row_set (row_set d.r0 (by omega)) (by omega)) (by omega)) (by omega), row_lowC (row_set (row_set (row_set d.r4 (by omega)) (by omega)) (by omega)) (by omega), row_lowC (row_set (row_set (row_set d.r8 (by omega)) (by omega)) (by omega)) (by omega),
   fun e => d.ap g7 rfl (by rw [e]; rfl), ((d.kept.hb.setCell (by simp) _).setCell (by simp) _).setCell (by simp) _⟩
set_option maxHeartbeats 16000000 in
theorem l7Copy_any {w : World} {aT aO aP : Option Addr} (cT cO cP : Nat) {T O P : List Q4} (hT : Quad w.heap.size w aT T) (hO : Quad w.heap.size w aO O) (hP : Quad w.heap.size w aP P) (nT : 1 ≤ T.length ∧ T.length ≤ 30) (nO : 1 ≤ O.length ∧ O.length ≤ 30) (nP : 1 ≤ P.length ∧ P.length ≤ 30) :
   Calls Tryz.prog 116 #[lendV aT T.length cT aO O.length cO aP P.length cP] w (CpPost w T O P) := by
 obtain ⟨iC, hiC, zC0, zC1, zC2⟩ := info_parts info_class
 obtain ⟨iB, hiB, zB0, zB1, zB2⟩ := info_parts info_bucket
 obtain ⟨bT, oT, rfl, _⟩ := hT 0 (by omega)
 obtain ⟨bO, oO, rfl, _⟩ := hO 0 (by omega)
 obtain ⟨bP, oP, rfl, _⟩ := hP 0 (by omega)
 have D : Hid (CpSt w ((w.alloc (.cells #[.slice (some ⟨bT, oT, none⟩) T.length cT, .slice (some ⟨bO, oO, none⟩) O.length cO, .slice (some ⟨bP, oP, none⟩) P.length cP] 27)).alloc (.cells #[.slice none 0 0, .slice none 0 0, .slice none 0 0] 27)) (.slice (some ⟨bT, oT, none⟩) T.length cT) (.slice (some ⟨bO, oO, none⟩) O.length cO) (.slice (some ⟨bP, oP, none⟩) P.length cP) (.slice none 0 0) (.slice none 0 0) (.slice none 0 0) [] [] []) :=
   ⟨⟨⟨⟨by simp <;> omega, by go_simp⟩, ⟨by simp <;> omega, by go_simp⟩, ⟨by simp <;> omega, by go_simp⟩, ⟨by simp, by go_simp⟩, ⟨by simp, by go_simp⟩, ⟨by simp, by go_simp⟩, trivial⟩,
     (fun b hb => by simp only [List.mem_cons, List.not_mem_nil, or_false] at hb; subst hb; exact ⟨by simp, fun o => by go_simp⟩), by go_grown⟩,
    World.ownsRow_nil _ _ _ _, World.ownsRow_nil _ _ _ _, World.ownsRow_nil _ _ _ _, (fun g e => by cases e), by simp⟩
 go_enter Tryz.func116, Tryz.ntmps116
 go_wp2
 obtain ⟨W, hW⟩ : ∃ W, (w.alloc (.cells #[.slice (some ⟨bT, oT, none⟩) T.length cT, .slice (some ⟨bO, oO, none⟩) O.length cO, .slice (some ⟨bP, oP, none⟩) P.length cP] 27)).alloc (.cells #[.slice none 0 0, .slice none 0 0, .slice none 0 0] 27) = W := ⟨_, rfl⟩
 rw [hW] at D ⊢
 clear hW
 have D : Hid _ := D.out.drew
 refine wp_region_held_drew (S := fun w' => w'.cell? ⟨w.heap.size, 0, none⟩ = some (.slice (some ⟨bT, oT, none⟩) T.length cT) ∧ w'.cell? ⟨w.heap.size, 1, none⟩ = some (.slice (some ⟨bO, oO, none⟩) O.length cO) ∧ w'.cell? ⟨w.heap.size, 2, none⟩ = some (.slice (some ⟨bP, oP, none⟩) P.length cP)) (by kernel_rfl) (D.out.S) (fun hS => ?_)
 obtain ⟨x0, hx⟩ : ∃ x, W.drew = x := ⟨_, rfl⟩
 rw [hx] at D hS ⊢
 clear hx
 refine anyR 1 rfl ?_
 refine anyR 2 rfl ?_
 refine anyR 5 rfl ?_
 refine anyR 6 rfl ?_
 refine anyR 9 rfl ?_
 refine anyR 10 rfl ?_
 refine wpAnyH_ready (rs := [0, 4, 8]) (by kernel_rfl) (by simp) (AllReadyH.cons rfl (fun K hK => ?_) (AllReadyH.cons rfl (fun K hK => ?_) (AllReadyH.cons rfl (fun K hK => ?_) AllReadyH.nil)))
 · go_simp
   have D : Hid _ := D.out.alloc0
   obtain ⟨x1, hx⟩ : ∃ x, x0.alloc (.cells #[] 110) = x := ⟨_, rfl⟩
   rw [hx] at D ⊢
   clear hx
   refine hK.out _ _ D.out.S (fun hS => ?_)
   try simp only [nrm]
   refine wpAnyH_ready (rs := [3, 4, 8]) (by kernel_rfl) (by simp) (AllReadyH.cons rfl (fun K hK => ?_) (AllReadyH.cons rfl (fun K hK => ?_) (AllReadyH.cons rfl (fun K hK => ?_) AllReadyH.nil)))
   · rw [if_pos (by rfl)]
     refine wp_append_two _ _ _ 24 rfl (w.heap.size + 2) 110 iC _ 4 32 Tryz.underlying24 hiC zC0 zC1 zC2 rfl (by decide) _ _ _ rfl D.out.r0 ⟨bT, oT, none⟩ T.length cT (flatQ T) rfl (flatQ_length T) (quad_news (hT.here D.out.kept.hb)) (flatQ_cell T) (by rw [List.length_nil]; unfold maxLen; omega) (by rw [List.length_nil]; omega) D.out.sz (by omega) ?_
     intro vn x2 ho hgr hbl
     rw [List.length_nil, Nat.zero_add, show flatQ [] ++ flatQ T = flatQ T from rfl] at ho
     obtain ⟨g3, k3, rfl, _, _⟩ := own_someC ho nT.1
     have D : Hid _ := D.out.app0 hgr ho
     clear ho hgr hbl
     refine hK.out _ _ D.out.S (fun hS => ?_)
     try simp only [nrm]
     refine wpAnyH_ready (rs := [4, 8]) (by kernel_rfl) (by simp) (AllReadyH.cons rfl (fun K hK => ?_) (AllReadyH.cons rfl (fun K hK => ?_) AllReadyH.nil))
     · go_simp
       have D : Hid _ := D.out.alloc4
       obtain ⟨x3, hx⟩ : ∃ x, x2.alloc (.cells #[] 53) = x := ⟨_, rfl⟩
       rw [hx] at D ⊢
       clear hx
       refine hK.out _ _ D.out.S (fun hS => ?_)
       try simp only [nrm]
       refine wpAnyH_ready (rs := [7, 8]) (by kernel_rfl) (by simp) (AllReadyH.cons rfl (fun K hK => ?_) (AllReadyH.cons rfl (fun K hK => ?_) AllReadyH.nil))
       · rw [if_pos (by rfl)]
         refine wp_append_two _ _ _ 25 rfl (w.heap.size + 2) 53 iB _ 4 32 Tryz.underlying25 hiB zB0 zB1 zB2 rfl (by decide) _ _ _ rfl D.out.r4 ⟨bO, oO, none⟩ O.length cO (flatQ O) rfl (flatQ_length O) (quad_news (hO.here D.out.kept.hb)) (flatQ_cell O) (by rw [List.length_nil]; unfold maxLen; omega) (by rw [List.length_nil]; omega) D.out.sz (by omega) ?_
         intro vn x4 ho hgr hbl
         rw [List.length_nil, Nat.zero_add, show flatQ [] ++ flatQ O = flatQ O from rfl] at ho
         obtain ⟨g7, k7, rfl, _, _⟩ := own_someC ho nO.1
         have D : Hid _ := D.out.app4 hgr ho hbl
         clear ho hgr hbl
         refine hK.out _ _ D.out.S (fun hS => ?_)
         try simp only [nrm]
         refine anyC 8 rfl fun K hK => ?_
         · go_simp
           have D : Hid _ := D.out.alloc8
           obtain ⟨x5, hx⟩ : ∃ x, x4.alloc (.cells #[] 53) = x := ⟨_, rfl⟩
           rw [hx] at D ⊢
           clear hx
           refine hK.out _ _ D.out.S (fun hS => ?_)
           try simp only [nrm]
           refine anyC 11 rfl fun K hK => ?_
           · rw [if_pos (by rfl)]
             refine wp_append_two _ _ _ 25 rfl (w.heap.size + 2) 53 iB _ 4 32 Tryz.underlying25 hiB zB0 zB1 zB2 rfl (by decide) _ _ _ rfl D.out.r8 ⟨bP, oP, none⟩ P.length cP (flatQ P) rfl (flatQ_length P) (quad_news (hP.here D.out.kept.hb)) (flatQ_cell P) (by rw [List.length_nil]; unfold maxLen; omega) (by rw [List.length_nil]; omega) D.out.sz (by omega) ?_
             intro vn x6 ho hgr hbl
             rw [List.length_nil, Nat.zero_add, show flatQ [] ++ flatQ P = flatQ P from rfl] at ho
             obtain ⟨g11, k11, rfl, _, _⟩ := own_someC ho nP.1
             have D : Hid _ := D.out.app8 hgr ho hbl
             clear ho hgr hbl
             refine hK.out _ _ D.out.S (fun hS => ?_)
             try simp only [nrm]
             refine anyR 12 rfl ?_
             have ⟨⟨_, q0⟩, ⟨_, q1⟩, ⟨_, q2⟩, ⟨_, q3⟩, ⟨_, q4⟩, ⟨_, q5⟩, _⟩ := D.out.kept.cells
             have fr := (D.out.kept.free (w.heap.size + 1) (List.mem_singleton.2 rfl)).2
             refine anyC 13 rfl fun K hK => ?_
             go_simp
             refine hK.out _ _ ⟨(set_far (by simp)).trans ((set_far (by simp)).trans ((set_far (by simp)).trans q0)), (set_far (by simp)).trans ((set_far (by simp)).trans ((set_far (by simp)).trans q1)), (set_far (by simp)).trans ((set_far (by simp)).trans ((set_far (by simp)).trans q2))⟩ (fun _ => ?_)
             try simp only [nrm]
             refine wpAnyH_done (by kernel_rfl) ?_ _
             go_wp2
             refine bodyPost_ret (results_one rfl _ _ _ [.slice (some ⟨g3, 0, none⟩) T.length k3, .slice (some ⟨g7, 0, none⟩) O.length k7, .slice (some ⟨g11, 0, none⟩) P.length k11] rfl (set_three (u0 := .slice none 0 0) (u1 := .slice none 0 0) (u2 := .slice none 0 0) _ _ _ q3 q4 q5) Tryz.underlying27 rfl (by kernel_rfl)) rfl ?_
             exact cp_fin D.out
       · go_simp
         have D : Hid _ := D.out.alloc8
         obtain ⟨x4, hx⟩ : ∃ x, x3.alloc (.cells #[] 53) = x := ⟨_, rfl⟩
         rw [hx] at D ⊢
         clear hx
         refine hK.out _ _ D.out.S (fun hS => ?_)
         try simp only [nrm]
         refine anyC 7 rfl fun K hK => ?_
         · rw [if_pos (by rfl)]
           refine wp_append_two _ _ _ 25 rfl (w.heap.size + 2) 53 iB _ 4 32 Tryz.underlying25 hiB zB0 zB1 zB2 rfl (by decide) _ _ _ rfl D.out.r4 ⟨bO, oO, none⟩ O.length cO (flatQ O) rfl (flatQ_length O) (quad_news (hO.here D.out.kept.hb)) (flatQ_cell O) (by rw [List.length_nil]; unfold maxLen; omega) (by rw [List.length_nil]; omega) D.out.sz (by omega) ?_
           intro vn x5 ho hgr hbl
           rw [List.length_nil, Nat.zero_add, show flatQ [] ++ flatQ O = flatQ O from rfl] at ho
           obtain ⟨g7, k7, rfl, _, _⟩ := own_someC ho nO.1
           have D : Hid _ := D.out.app4 hgr ho hbl
           clear ho hgr hbl
           refine hK.out _ _ D.out.S (fun hS => ?_)
           try simp only [nrm]
           refine anyC 11 rfl fun K hK => ?_
           · rw [if_pos (by rfl)]
             refine wp_append_two _ _ _ 25 rfl (w.heap.size + 2) 53 iB _ 4 32 Tryz.underlying25 hiB zB0 zB1 zB2 rfl (by decide) _ _ _ rfl D.out.r8 ⟨bP, oP, none⟩ P.length cP (flatQ P) rfl (flatQ_length P) (quad_news (hP.here D.out.kept.hb)) (flatQ_cell P) (by rw [List.length_nil]; unfold maxLen; omega) (by rw [List.length_nil]; omega) D.out.sz (by omega) ?_
             intro vn x6 ho hgr hbl
             rw [List.length_nil, Nat.zero_add, show flatQ [] ++ flatQ P = flatQ P from rfl] at ho
             obtain ⟨g11, k11, rfl, _, _⟩ := own_someC ho nP.1
             have D : Hid _ := D.out.app8 hgr ho hbl
             clear ho hgr hbl
             refine hK.out _ _ D.out.S (fun hS => ?_)
             try simp only [nrm]
             refine anyR 12 rfl ?_
             have ⟨⟨_, q0⟩, ⟨_, q1⟩, ⟨_, q2⟩, ⟨_, q3⟩, ⟨_, q4⟩, ⟨_, q5⟩, _⟩ := D.out.kept.cells
             have fr := (D.out.kept.free (w.heap.size + 1) (List.mem_singleton.2 rfl)).2
             refine anyC 13 rfl fun K hK => ?_
             go_simp
             refine hK.out _ _ ⟨(set_far (by simp)).trans ((set_far (by simp)).trans ((set_far (by simp)).trans q0)), (set_far (by simp)).trans ((set_far (by simp)).trans ((set_far (by simp)).trans q1)), (set_far (by simp)).trans ((set_far (by simp)).trans ((set_far (by simp)).trans q2))⟩ (fun _ => ?_)
             try simp only [nrm]
             refine wpAnyH_done (by kernel_rfl) ?_ _
             go_wp2
             refine bodyPost_ret (results_one rfl _ _ _ [.slice (some ⟨g3, 0, none⟩) T.length k3, .slice (some ⟨g7, 0, none⟩) O.length k7, .slice (some ⟨g11, 0, none⟩) P.length k11] rfl (set_three (u0 := .slice none 0 0) (u1 := .slice none 0 0) (u2 := .slice none 0 0) _ _ _ q3 q4 q5) Tryz.underlying27 rfl (by kernel_rfl)) rfl ?_
             exact cp_fin D.out
     · go_simp
       have D : Hid _ := D.out.alloc8
       obtain ⟨x3, hx⟩ : ∃ x, x2.alloc (.cells #[] 53) = x := ⟨_, rfl⟩
       rw [hx] at D ⊢
       clear hx
       refine hK.out _ _ D.out.S (fun hS => ?_)
       try simp only [nrm]
       refine anyC 4 rfl fun K hK => ?_
       · go_simp
         have D : Hid _ := D.out.alloc4
         obtain ⟨x4, hx⟩ : ∃ x, x3.alloc (.cells #[] 53) = x := ⟨_, rfl⟩
         rw [hx] at D ⊢
         clear hx
         refine hK.out _ _ D.out.S (fun hS => ?_)
         try simp only [nrm]
         refine anyC 7 rfl fun K hK => ?_
         · rw [if_pos (by rfl)]
           refine wp_append_two _ _ _ 25 rfl (w.heap.size + 2) 53 iB _ 4 32 Tryz.underlying25 hiB zB0 zB1 zB2 rfl (by decide) _ _ _ rfl D.out.r4 ⟨bO, oO, none⟩ O.length cO (flatQ O) rfl (flatQ_length O) (quad_news (hO.here D.out.kept.hb)) (flatQ_cell O) (by rw [List.length_nil]; unfold maxLen; omega) (by rw [List.length_nil]; omega) D.out.sz (by omega) ?_
           intro vn x5 ho hgr hbl
           rw [List.length_nil, Nat.zero_add, show flatQ [] ++ flatQ O = flatQ O from rfl] at ho
           obtain ⟨g7, k7, rfl, _, _⟩ := own_someC ho nO.1
           have D : Hid _ := D.out.app4 hgr ho hbl
           clear ho hgr hbl
           refine hK.out _ _ D.out.S (fun hS => ?_)
           try simp only [nrm]
           refine anyC 11 rfl fun K hK => ?_
           · rw [if_pos (by rfl)]
             refine wp_append_two _ _ _ 25 rfl (w.heap.size + 2) 53 iB _ 4 32 Tryz.underlying25 hiB zB0 zB1 zB2 rfl (by decide) _ _ _ rfl D.out.r8 ⟨bP, oP, none⟩ P.length cP (flatQ P) rfl (flatQ_length P) (quad_news (hP.here D.out.kept.hb)) (flatQ_cell P) (by rw [List.length_nil]; unfold maxLen; omega) (by rw [List.length_nil]; omega) D.out.sz (by omega) ?_
             intro vn x6 ho hgr hbl
             rw [List.length_nil, Nat.zero_add, show flatQ [] ++ flatQ P = flatQ P from rfl] at ho
             obtain ⟨g11, k11, rfl, _, _⟩ := own_someC ho nP.1
             have D : Hid _ := D.out.app8 hgr ho hbl
             clear ho hgr hbl
             refine hK.out _ _ D.out.S (fun hS => ?_)
             try simp only [nrm]
             refine anyR 12 rfl ?_
             have ⟨⟨_, q0⟩, ⟨_, q1⟩, ⟨_, q2⟩, ⟨_, q3⟩, ⟨_, q4⟩, ⟨_, q5⟩, _⟩ := D.out.kept.cells
             have fr := (D.out.kept.free (w.heap.size + 1) (List.mem_singleton.2 rfl)).2
             refine anyC 13 rfl fun K hK => ?_
             go_simp
             refine hK.out _ _ ⟨(set_far (by simp)).trans ((set_far (by simp)).trans ((set_far (by simp)).trans q0)), (set_far (by simp)).trans ((set_far (by simp)).trans ((set_far (by simp)).trans q1)), (set_far (by simp)).trans ((set_far (by simp)).trans ((set_far (by simp)).trans q2))⟩ (fun _ => ?_)
             try simp only [nrm]
             refine wpAnyH_done (by kernel_rfl) ?_ _
             go_wp2
             refine bodyPost_ret (results_one rfl _ _ _ [.slice (some ⟨g3, 0, none⟩) T.length k3, .slice (some ⟨g7, 0, none⟩) O.length k7, .slice (some ⟨g11, 0, none⟩) P.length k11] rfl (set_three (u0 := .slice none 0 0) (u1 := .slice none 0 0) (u2 := .slice none 0 0) _ _ _ q3 q4 q5) Tryz.underlying27 rfl (by kernel_rfl)) rfl ?_
             exact cp_fin D.out
   · go_simp
     have D : Hid _ := D.out.alloc4
     obtain ⟨x2, hx⟩ : ∃ x, x1.alloc (.cells #[] 53) = x := ⟨_, rfl⟩
     rw [hx] at D ⊢
     clear hx
     refine hK.out _ _ D.out.S (fun hS => ?_)
     try simp only [nrm]
     refine wpAnyH_ready (rs := [3, 8]) (by kernel_rfl) (by simp) (AllReadyH.cons rfl (fun K hK => ?_) (AllReadyH.cons rfl (fun K hK => ?_) AllReadyH.nil))
     · rw [if_pos (by rfl)]
       refine wp_append_two _ _ _ 24 rfl (w.heap.size + 2) 110 iC _ 4 32 Tryz.underlying24 hiC zC0 zC1 zC2 rfl (by decide) _ _ _ rfl D.out.r0 ⟨bT, oT, none⟩ T.length cT (flatQ T) rfl (flatQ_length T) (quad_news (hT.here D.out.kept.hb)) (flatQ_cell T) (by rw [List.length_nil]; unfold maxLen; omega) (by rw [List.length_nil]; omega) D.out.sz (by omega) ?_
       intro vn x3 ho hgr hbl
       rw [List.length_nil, Nat.zero_add, show flatQ [] ++ flatQ T = flatQ T from rfl] at ho
       obtain ⟨g3, k3, rfl, _, _⟩ := own_someC ho nT.1
       have D : Hid _ := D.out.app0 hgr ho
       clear ho hgr hbl
       refine hK.out _ _ D.out.S (fun hS => ?_)
       try simp only [nrm]
       refine wpAnyH_ready (rs := [7, 8]) (by kernel_rfl) (by simp) (AllReadyH.cons rfl (fun K hK => ?_) (AllReadyH.cons rfl (fun K hK => ?_) AllReadyH.nil))
       · rw [if_pos (by rfl)]
         refine wp_append_two _ _ _ 25 rfl (w.heap.size + 2) 53 iB _ 4 32 Tryz.underlying25 hiB zB0 zB1 zB2 rfl (by decide) _ _ _ rfl D.out.r4 ⟨bO, oO, none⟩ O.length cO (flatQ O) rfl (flatQ_length O) (quad_news (hO.here D.out.kept.hb)) (flatQ_cell O) (by rw [List.length_nil]; unfold maxLen; omega) (by rw [List.length_nil]; omega) D.out.sz (by omega) ?_
         intro vn x4 ho hgr hbl
         rw [List.length_nil, Nat.zero_add, show flatQ [] ++ flatQ O = flatQ O from rfl] at ho
         obtain ⟨g7, k7, rfl, _, _⟩ := own_someC ho nO.1
         have D : Hid _ := D.out.app4 hgr ho hbl
         clear ho hgr hbl
         refine hK.out _ _ D.out.S (fun hS => ?_)
         try simp only [nrm]
         refine anyC 8 rfl fun K hK => ?_
         · go_simp
           have D : Hid _ := D.out.alloc8
           obtain ⟨x5, hx⟩ : ∃ x, x4.alloc (.cells #[] 53) = x := ⟨_, rfl⟩
           rw [hx] at D ⊢
           clear hx
           refine hK.out _ _ D.out.S (fun hS => ?_)
           try simp only [nrm]
           refine anyC 11 rfl fun K hK => ?_
           · rw [if_pos (by rfl)]
             refine wp_append_two _ _ _ 25 rfl (w.heap.size + 2) 53 iB _ 4 32 Tryz.underlying25 hiB zB0 zB1 zB2 rfl (by decide) _ _ _ rfl D.out.r8 ⟨bP, oP, none⟩ P.length cP (flatQ P) rfl (flatQ_length P) (quad_news (hP.here D.out.kept.hb)) (flatQ_cell P) (by rw [List.length_nil]; unfold maxLen; omega) (by rw [List.length_nil]; omega) D.out.sz (by omega) ?_
             intro vn x6 ho hgr hbl
             rw [List.length_nil, Nat.zero_add, show flatQ [] ++ flatQ P = flatQ P from rfl] at ho
             obtain ⟨g11, k11, rfl, _, _⟩ := own_someC ho nP.1
             have D : Hid _ := D.out.app8 hgr ho hbl
             clear ho hgr hbl
             refine hK.out _ _ D.out.S (fun hS => ?_)
             try simp only [nrm]
             refine anyR 12 rfl ?_
             have ⟨⟨_, q0⟩, ⟨_, q1⟩, ⟨_, q2⟩, ⟨_, q3⟩, ⟨_, q4⟩, ⟨_, q5⟩, _⟩ := D.out.kept.cells
             have fr := (D.out.kept.free (w.heap.size + 1) (List.mem_singleton.2 rfl)).2
             refine anyC 13 rfl fun K hK => ?_
             go_simp
             refine hK.out _ _ ⟨(set_far (by simp)).trans ((set_far (by simp)).trans ((set_far (by simp)).trans q0)), (set_far (by simp)).trans ((set_far (by simp)).trans ((set_far (by simp)).trans q1)), (set_far (by simp)).trans ((set_far (by simp)).trans ((set_far (by simp)).trans q2))⟩ (fun _ => ?_)
             try simp only [nrm]
             refine wpAnyH_done (by kernel_rfl) ?_ _
             go_wp2
             refine bodyPost_ret (results_one rfl _ _ _ [.slice (some ⟨g3, 0, none⟩) T.length k3, .slice (some ⟨g7, 0, none⟩) O.length k7, .slice (some ⟨g11, 0, none⟩) P.length k11] rfl (set_three (u0 := .slice none 0 0) (u1 := .slice none 0 0) (u2 := .slice none 0 0) _ _ _ q3 q4 q5) Tryz.underlying27 rfl (by kernel_rfl)) rfl ?_
             exact cp_fin D.out
       · go_simp
         have D : Hid _ := D.out.alloc8
         obtain ⟨x4, hx⟩ : ∃ x, x3.alloc (.cells #[] 53) = x := ⟨_, rfl⟩
         rw [hx] at D ⊢
         clear hx
         refine hK.out _ _ D.out.S (fun hS => ?_)
         try simp only [nrm]
         refine anyC 7 rfl fun K hK => ?_
         · rw [if_pos (by rfl)]
           refine wp_append_two _ _ _ 25 rfl (w.heap.size + 2) 53 iB _ 4 32 Tryz.underlying25 hiB zB0 zB1 zB2 rfl (by decide) _ _ _ rfl D.out.r4 ⟨bO, oO, none⟩ O.length cO (flatQ O) rfl (flatQ_length O) (quad_news (hO.here D.out.kept.hb)) (flatQ_cell O) (by rw [List.length_nil]; unfold maxLen; omega) (by rw [List.length_nil]; omega) D.out.sz (by omega) ?_
           intro vn x5 ho hgr hbl
           rw [List.length_nil, Nat.zero_add, show flatQ [] ++ flatQ O = flatQ O from rfl] at ho
           obtain ⟨g7, k7, rfl, _, _⟩ := own_someC ho nO.1
           have D : Hid _ := D.out.app4 hgr ho hbl
           clear ho hgr hbl
           refine hK.out _ _ D.out.S (fun hS => ?_)
           try simp only [nrm]
           refine anyC 11 rfl fun K hK => ?_
           · rw [if_pos (by rfl)]
             refine wp_append_two _ _ _ 25 rfl (w.heap.size + 2) 53 iB _ 4 32 Tryz.underlying25 hiB zB0 zB1 zB2 rfl (by decide) _ _ _ rfl D.out.r8 ⟨bP, oP, none⟩ P.length cP (flatQ P) rfl (flatQ_length P) (quad_news (hP.here D.out.kept.hb)) (flatQ_cell P) (by rw [List.length_nil]; unfold maxLen; omega) (by rw [List.length_nil]; omega) D.out.sz (by omega) ?_
             intro vn x6 ho hgr hbl
             rw [List.length_nil, Nat.zero_add, show flatQ [] ++ flatQ P = flatQ P from rfl] at ho
             obtain ⟨g11, k11, rfl, _, _⟩ := own_someC ho nP.1
             have D : Hid _ := D.out.app8 hgr ho hbl
             clear ho hgr hbl
             refine hK.out _ _ D.out.S (fun hS => ?_)
             try simp only [nrm]
             refine anyR 12 rfl ?_
             have ⟨⟨_, q0⟩, ⟨_, q1⟩, ⟨_, q2⟩, ⟨_, q3⟩, ⟨_, q4⟩, ⟨_, q5⟩, _⟩ := D.out.kept.cells
             have fr := (D.out.kept.free (w.heap.size + 1) (List.mem_singleton.2 rfl)).2
             refine anyC 13 rfl fun K hK => ?_
             go_simp
             refine hK.out _ _ ⟨(set_far (by simp)).trans ((set_far (by simp)).trans ((set_far (by simp)).trans q0)), (set_far (by simp)).trans ((set_far (by simp)).trans ((set_far (by simp)).trans q1)), (set_far (by simp)).trans ((set_far (by simp)).trans ((set_far (by simp)).trans q2))⟩ (fun _ => ?_)
             try simp only [nrm]
             refine wpAnyH_done (by kernel_rfl) ?_ _
             go_wp2
             refine bodyPost_ret (results_one rfl _ _ _ [.slice (some ⟨g3, 0, none⟩) T.length k3, .slice (some ⟨g7, 0, none⟩) O.length k7, .slice (some ⟨g11, 0, none⟩) P.length k11] rfl (set_three (u0 := .slice none 0 0) (u1 := .slice none 0 0) (u2 := .slice none 0 0) _ _ _ q3 q4 q5) Tryz.underlying27 rfl (by kernel_rfl)) rfl ?_
             exact cp_fin D.out
     · go_simp
       have D : Hid _ := D.out.alloc8
       obtain ⟨x3, hx⟩ : ∃ x, x2.alloc (.cells #[] 53) = x := ⟨_, rfl⟩
       rw [hx] at D ⊢
       clear hx
       refine hK.out _ _ D.out.S (fun hS => ?_)
       try simp only [nrm]
       refine anyC 3 rfl fun K hK => ?_
       · rw [if_pos (by rfl)]
         refine wp_append_two _ _ _ 24 rfl (w.heap.size + 2) 110 iC _ 4 32 Tryz.underlying24 hiC zC0 zC1 zC2 rfl (by decide) _ _ _ rfl D.out.r0 ⟨bT, oT, none⟩ T.length cT (flatQ T) rfl (flatQ_length T) (quad_news (hT.here D.out.kept.hb)) (flatQ_cell T) (by rw [List.length_nil]; unfold maxLen; omega) (by rw [List.length_nil]; omega) D.out.sz (by omega) ?_
         intro vn x4 ho hgr hbl
         rw [List.length_nil, Nat.zero_add, show flatQ [] ++ flatQ T = flatQ T from rfl] at ho
         obtain ⟨g3, k3, rfl, _, _⟩ := own_someC ho nT.1
         have D : Hid _ := D.out.app0 hgr ho
         clear ho hgr hbl
         refine hK.out _ _ D.out.S (fun hS => ?_)
         try simp only [nrm]
         refine anyC 7 rfl fun K hK => ?_
         · rw [if_pos (by rfl)]
           refine wp_append_two _ _ _ 25 rfl (w.heap.size + 2) 53 iB _ 4 32 Tryz.underlying25 hiB zB0 zB1 zB2 rfl (by decide) _ _ _ rfl D.out.r4 ⟨bO, oO, none⟩ O.length cO (flatQ O) rfl (flatQ_length O) (quad_news (hO.here D.out.kept.hb)) (flatQ_cell O) (by rw [List.length_nil]; unfold maxLen; omega) (by rw [List.length_nil]; omega) D.out.sz (by omega) ?_
           intro vn x5 ho hgr hbl
           rw [List.length_nil, Nat.zero_add, show flatQ [] ++ flatQ O = flatQ O from rfl] at ho
           obtain ⟨g7, k7, rfl, _, _⟩ := own_someC ho nO.1
           have D : Hid _ := D.out.app4 hgr ho hbl
           clear ho hgr hbl
           refine hK.out _ _ D.out.S (fun hS => ?_)
           try simp only [nrm]
           refine anyC 11 rfl fun K hK => ?_
           · rw [if_pos (by rfl)]
             refine wp_append_two _ _ _ 25 rfl (w.heap.size + 2) 53 iB _ 4 32 Tryz.underlying25 hiB zB0 zB1 zB2 rfl (by decide) _ _ _ rfl D.out.r8 ⟨bP, oP, none⟩ P.length cP (flatQ P) rfl (flatQ_length P) (quad_news (hP.here D.out.kept.hb)) (flatQ_cell P) (by rw [List.length_nil]; unfold maxLen; omega) (by rw [List.length_nil]; omega) D.out.sz (by omega) ?_
             intro vn x6 ho hgr hbl
             rw [List.length_nil, Nat.zero_add, show flatQ [] ++ flatQ P = flatQ P from rfl] at ho
             obtain ⟨g11, k11, rfl, _, _⟩ := own_someC ho nP.1
             have D : Hid _ := D.out.app8 hgr ho hbl
             clear ho hgr hbl
             refine hK.out _ _ D.out.S (fun hS => ?_)
             try simp only [nrm]
             refine anyR 12 rfl ?_
             have ⟨⟨_, q0⟩, ⟨_, q1⟩, ⟨_, q2⟩, ⟨_, q3⟩, ⟨_, q4⟩, ⟨_, q5⟩, _⟩ := D.out.kept.cells
             have fr := (D.out.kept.free (w.heap.size + 1) (List.mem_singleton.2 rfl)).2
             refine anyC 13 rfl fun K hK => ?_
             go_simp
             refine hK.out _ _ ⟨(set_far (by simp)).trans ((set_far (by simp)).trans ((set_far (by simp)).trans q0)), (set_far (by simp)).trans ((set_far (by simp)).trans ((set_far (by simp)).trans q1)), (set_far (by simp)).trans ((set_far (by simp)).trans ((set_far (by simp)).trans q2))⟩ (fun _ => ?_)
             try simp only [nrm]
             refine wpAnyH_done (by kernel_rfl) ?_ _
             go_wp2
             refine bodyPost_ret (results_one rfl _ _ _ [.slice (some ⟨g3, 0, none⟩) T.length k3, .slice (some ⟨g7, 0, none⟩) O.length k7, .slice (some ⟨g11, 0, none⟩) P.length k11] rfl (set_three (u0 := .slice none 0 0) (u1 := .slice none 0 0) (u2 := .slice none 0 0) _ _ _ q3 q4 q5) Tryz.underlying27 rfl (by kernel_rfl)) rfl ?_
             exact cp_fin D.out
   · go_simp
     have D : Hid _ := D.out.alloc8
     obtain ⟨x2, hx⟩ : ∃ x, x1.alloc (.cells #[] 53) = x := ⟨_, rfl⟩
     rw [hx] at D ⊢
     clear hx
     refine hK.out _ _ D.out.S (fun hS => ?_)
     try simp only [nrm]
     refine wpAnyH_ready (rs := [3, 4]) (by kernel_rfl) (by simp) (AllReadyH.cons rfl (fun K hK => ?_) (AllReadyH.cons rfl (fun K hK => ?_) AllReadyH.nil))
     · rw [if_pos (by rfl)]
       refine wp_append_two _ _ _ 24 rfl (w.heap.size + 2) 110 iC _ 4 32 Tryz.underlying24 hiC zC0 zC1 zC2 rfl (by decide) _ _ _ rfl D.out.r0 ⟨bT, oT, none⟩ T.length cT (flatQ T) rfl (flatQ_length T) (quad_news (hT.here D.out.kept.hb)) (flatQ_cell T) (by rw [List.length_nil]; unfold maxLen; omega) (by rw [List.length_nil]; omega) D.out.sz (by omega) ?_
       intro vn x3 ho hgr hbl
       rw [List.length_nil, Nat.zero_add, show flatQ [] ++ flatQ T = flatQ T from rfl] at ho
       obtain ⟨g3, k3, rfl, _, _⟩ := own_someC ho nT.1
       have D : Hid _ := D.out.app0 hgr ho
       clear ho hgr hbl
       refine hK.out _ _ D.out.S (fun hS => ?_)
       try simp only [nrm]
       refine anyC 4 rfl fun K hK => ?_
       · go_simp
         have D : Hid _ := D.out.alloc4
         obtain ⟨x4, hx⟩ : ∃ x, x3.alloc (.cells #[] 53) = x := ⟨_, rfl⟩
         rw [hx] at D ⊢
         clear hx
         refine hK.out _ _ D.out.S (fun hS => ?_)
         try simp only [nrm]
         refine anyC 7 rfl fun K hK => ?_
         · rw [if_pos (by rfl)]
           refine wp_append_two _ _ _ 25 rfl (w.heap.size + 2) 53 iB _ 4 32 Tryz.underlying25 hiB zB0 zB1 zB2 rfl (by decide) _ _ _ rfl D.out.r4 ⟨bO, oO, none⟩ O.length cO (flatQ O) rfl (flatQ_length O) (quad_news (hO.here D.out.kept.hb)) (flatQ_cell O) (by rw [List.length_nil]; unfold maxLen; omega) (by rw [List.length_nil]; omega) D.out.sz (by omega) ?_
           intro vn x5 ho hgr hbl
           rw [List.length_nil, Nat.zero_add, show flatQ [] ++ flatQ O = flatQ O from rfl] at ho
           obtain ⟨g7, k7, rfl, _, _⟩ := own_someC ho nO.1
           have D : Hid _ := D.out.app4 hgr ho hbl
           clear ho hgr hbl
           refine hK.out _ _ D.out.S (fun hS => ?_)
           try simp only [nrm]
           refine anyC 11 rfl fun K hK => ?_
           · rw [if_pos (by rfl)]
             refine wp_append_two _ _ _ 25 rfl (w.heap.size + 2) 53 iB _ 4 32 Tryz.underlying25 hiB zB0 zB1 zB2 rfl (by decide) _ _ _ rfl D.out.r8 ⟨bP, oP, none⟩ P.length cP (flatQ P) rfl (flatQ_length P) (quad_news (hP.here D.out.kept.hb)) (flatQ_cell P) (by rw [List.length_nil]; unfold maxLen; omega) (by rw [List.length_nil]; omega) D.out.sz (by omega) ?_
             intro vn x6 ho hgr hbl
             rw [List.length_nil, Nat.zero_add, show flatQ [] ++ flatQ P = flatQ P from rfl] at ho
             obtain ⟨g11, k11, rfl, _, _⟩ := own_someC ho nP.1
             have D : Hid _ := D.out.app8 hgr ho hbl
             clear ho hgr hbl
             refine hK.out _ _ D.out.S (fun hS => ?_)
             try simp only [nrm]
             refine anyR 12 rfl ?_
             have ⟨⟨_, q0⟩, ⟨_, q1⟩, ⟨_, q2⟩, ⟨_, q3⟩, ⟨_, q4⟩, ⟨_, q5⟩, _⟩ := D.out.kept.cells
             have fr := (D.out.kept.free (w.heap.size + 1) (List.mem_singleton.2 rfl)).2
             refine anyC 13 rfl fun K hK => ?_
             go_simp
             refine hK.out _ _ ⟨(set_far (by simp)).trans ((set_far (by simp)).trans ((set_far (by simp)).trans q0)), (set_far (by simp)).trans ((set_far (by simp)).trans ((set_far (by simp)).trans q1)), (set_far (by simp)).trans ((set_far (by simp)).trans ((set_far (by simp)).trans q2))⟩ (fun _ => ?_)
             try simp only [nrm]
             refine wpAnyH_done (by kernel_rfl) ?_ _
             go_wp2
             refine bodyPost_ret (results_one rfl _ _ _ [.slice (some ⟨g3, 0, none⟩) T.length k3, .slice (some ⟨g7, 0, none⟩) O.length k7, .slice (some ⟨g11, 0, none⟩) P.length k11] rfl (set_three (u0 := .slice none 0 0) (u1 := .slice none 0 0) (u2 := .slice none 0 0) _ _ _ q3 q4 q5) Tryz.underlying27 rfl (by kernel_rfl)) rfl ?_
             exact cp_fin D.out
     · go_simp
       have D : Hid _ := D.out.alloc4
       obtain ⟨x3, hx⟩ : ∃ x, x2.alloc (.cells #[] 53) = x := ⟨_, rfl⟩
       rw [hx] at D ⊢
       clear hx
       refine hK.out _ _ D.out.S (fun hS => ?_)
       try simp only [nrm]
       refine anyC 3 rfl fun K hK => ?_
       · rw [if_pos (by rfl)]
         refine wp_append_two _ _ _ 24 rfl (w.heap.size + 2) 110 iC _ 4 32 Tryz.underlying24 hiC zC0 zC1 zC2 rfl (by decide) _ _ _ rfl D.out.r0 ⟨bT, oT, none⟩ T.length cT (flatQ T) rfl (flatQ_length T) (quad_news (hT.here D.out.kept.hb)) (flatQ_cell T) (by rw [List.length_nil]; unfold maxLen; omega) (by rw [List.length_nil]; omega) D.out.sz (by omega) ?_
         intro vn x4 ho hgr hbl
         rw [List.length_nil, Nat.zero_add, show flatQ [] ++ flatQ T = flatQ T from rfl] at ho
         obtain ⟨g3, k3, rfl, _, _⟩ := own_someC ho nT.1
         have D : Hid _ := D.out.app0 hgr ho
         clear ho hgr hbl
         refine hK.out _ _ D.out.S (fun hS => ?_)
         try simp only [nrm]
         refine anyC 7 rfl fun K hK => ?_
         · rw [if_pos (by rfl)]
           refine wp_append_two _ _ _ 25 rfl (w.heap.size + 2) 53 iB _ 4 32 Tryz.underlying25 hiB zB0 zB1 zB2 rfl (by decide) _ _ _ rfl D.out.r4 ⟨bO, oO, none⟩ O.length cO (flatQ O) rfl (flatQ_length O) (quad_news (hO.here D.out.kept.hb)) (flatQ_cell O) (by rw [List.length_nil]; unfold maxLen; omega) (by rw [List.length_nil]; omega) D.out.sz (by omega) ?_
           intro vn x5 ho hgr hbl
           rw [List.length_nil, Nat.zero_add, show flatQ [] ++ flatQ O = flatQ O from rfl] at ho
           obtain ⟨g7, k7, rfl, _, _⟩ := own_someC ho nO.1
           have D : Hid _ := D.out.app4 hgr ho hbl
           clear ho hgr hbl
           refine hK.out _ _ D.out.S (fun hS => ?_)
           try simp only [nrm]
           refine anyC 11 rfl fun K hK => ?_
           · rw [if_pos (by rfl)]
             refine wp_append_two _ _ _ 25 rfl (w.heap.size + 2) 53 iB _ 4 32 Tryz.underlying25 hiB zB0 zB1 zB2 rfl (by decide) _ _ _ rfl D.out.r8 ⟨bP, oP, none⟩ P.length cP (flatQ P) rfl (flatQ_length P) (quad_news (hP.here D.out.kept.hb)) (flatQ_cell P) (by rw [List.length_nil]; unfold maxLen; omega) (by rw [List.length_nil]; omega) D.out.sz (by omega) ?_
             intro vn x6 ho hgr hbl
             rw [List.length_nil, Nat.zero_add, show flatQ [] ++ flatQ P = flatQ P from rfl] at ho
             obtain ⟨g11, k11, rfl, _, _⟩ := own_someC ho nP.1
             have D : Hid _ := D.out.app8 hgr ho hbl
             clear ho hgr hbl
             refine hK.out _ _ D.out.S (fun hS => ?_)
             try simp only [nrm]
             refine anyR 12 rfl ?_
             have ⟨⟨_, q0⟩, ⟨_, q1⟩, ⟨_, q2⟩, ⟨_, q3⟩, ⟨_, q4⟩, ⟨_, q5⟩, _⟩ := D.out.kept.cells
             have fr := (D.out.kept.free (w.heap.size + 1) (List.mem_singleton.2 rfl)).2
             refine anyC 13 rfl fun K hK => ?_
             go_simp
             refine hK.out _ _ ⟨(set_far (by simp)).trans ((set_far (by simp)).trans ((set_far (by simp)).trans q0)), (set_far (by simp)).trans ((set_far (by simp)).trans ((set_far (by simp)).trans q1)), (set_far (by simp)).trans ((set_far (by simp)).trans ((set_far (by simp)).trans q2))⟩ (fun _ => ?_)
             try simp only [nrm]
             refine wpAnyH_done (by kernel_rfl) ?_ _
             go_wp2
             refine bodyPost_ret (results_one rfl _ _ _ [.slice (some ⟨g3, 0, none⟩) T.length k3, .slice (some ⟨g7, 0, none⟩) O.length k7, .slice (some ⟨g11, 0, none⟩) P.length k11] rfl (set_three (u0 := .slice none 0 0) (u1 := .slice none 0 0) (u2 := .slice none 0 0) _ _ _ q3 q4 q5) Tryz.underlying27 rfl (by kernel_rfl)) rfl ?_
             exact cp_fin D.out
 · go_simp
   have D : Hid _ := D.out.alloc4
   obtain ⟨x1, hx⟩ : ∃ x, x0.alloc (.cells #[] 53) = x := ⟨_, rfl⟩
   rw [hx] at D ⊢
   clear hx
   refine hK.out _ _ D.out.S (fun hS => ?_)
   try simp only [nrm]
   refine wpAnyH_ready (rs := [0, 8]) (by kernel_rfl) (by simp) (AllReadyH.cons rfl (fun K hK => ?_) (AllReadyH.cons rfl (fun K hK => ?_) AllReadyH.nil))
   · go_simp
     have D : Hid _ := D.out.alloc0
     obtain ⟨x2, hx⟩ : ∃ x, x1.alloc (.cells #[] 110) = x := ⟨_, rfl⟩
     rw [hx] at D ⊢
     clear hx
     refine hK.out _ _ D.out.S (fun hS => ?_)
     try simp only [nrm]
     refine wpAnyH_ready (rs := [3, 8]) (by kernel_rfl) (by simp) (AllReadyH.cons rfl (fun K hK => ?_) (AllReadyH.cons rfl (fun K hK => ?_) AllReadyH.nil))
     · rw [if_pos (by rfl)]
       refine wp_append_two _ _ _ 24 rfl (w.heap.size + 2) 110 iC _ 4 32 Tryz.underlying24 hiC zC0 zC1 zC2 rfl (by decide) _ _ _ rfl D.out.r0 ⟨bT, oT, none⟩ T.length cT (flatQ T) rfl (flatQ_length T) (quad_news (hT.here D.out.kept.hb)) (flatQ_cell T) (by rw [List.length_nil]; unfold maxLen; omega) (by rw [List.length_nil]; omega) D.out.sz (by omega) ?_
       intro vn x3 ho hgr hbl
       rw [List.length_nil, Nat.zero_add, show flatQ [] ++ flatQ T = flatQ T from rfl] at ho
       obtain ⟨g3, k3, rfl, _, _⟩ := own_someC ho nT.1
       have D : Hid _ := D.out.app0 hgr ho
       clear ho hgr hbl
       refine hK.out _ _ D.out.S (fun hS => ?_)
       try simp only [nrm]
       refine wpAnyH_ready (rs := [7, 8]) (by kernel_rfl) (by simp) (AllReadyH.cons rfl (fun K hK => ?_) (AllReadyH.cons rfl (fun K hK => ?_) AllReadyH.nil))
       · rw [if_pos (by rfl)]
         refine wp_append_two _ _ _ 25 rfl (w.heap.size + 2) 53 iB _ 4 32 Tryz.underlying25 hiB zB0 zB1 zB2 rfl (by decide) _ _ _ rfl D.out.r4 ⟨bO, oO, none⟩ O.length cO (flatQ O) rfl (flatQ_length O) (quad_news (hO.here D.out.kept.hb)) (flatQ_cell O) (by rw [List.length_nil]; unfold maxLen; omega) (by rw [List.length_nil]; omega) D.out.sz (by omega) ?_
         intro vn x4 ho hgr hbl
         rw [List.length_nil, Nat.zero_add, show flatQ [] ++ flatQ O = flatQ O from rfl] at ho
         obtain ⟨g7, k7, rfl, _, _⟩ := own_someC ho nO.1
         have D : Hid _ := D.out.app4 hgr ho hbl
         clear ho hgr hbl
         refine hK.out _ _ D.out.S (fun hS => ?_)
         try simp only [nrm]
         refine anyC 8 rfl fun K hK => ?_
         · go_simp
           have D : Hid _ := D.out.alloc8
           obtain ⟨x5, hx⟩ : ∃ x, x4.alloc (.cells #[] 53) = x := ⟨_, rfl⟩
           rw [hx] at D ⊢
           clear hx
           refine hK.out _ _ D.out.S (fun hS => ?_)
           try simp only [nrm]
           refine anyC 11 rfl fun K hK => ?_
           · rw [if_pos (by rfl)]
             refine wp_append_two _ _ _ 25 rfl (w.heap.size + 2) 53 iB _ 4 32 Tryz.underlying25 hiB zB0 zB1 zB2 rfl (by decide) _ _ _ rfl D.out.r8 ⟨bP, oP, none⟩ P.length cP (flatQ P) rfl (flatQ_length P) (quad_news (hP.here D.out.kept.hb)) (flatQ_cell P) (by rw [List.length_nil]; unfold maxLen; omega) (by rw [List.length_nil]; omega) D.out.sz (by omega) ?_
             intro vn x6 ho hgr hbl
             rw [List.length_nil, Nat.zero_add, show flatQ [] ++ flatQ P = flatQ P from rfl] at ho
             obtain ⟨g11, k11, rfl, _, _⟩ := own_someC ho nP.1
             have D : Hid _ := D.out.app8 hgr ho hbl
             clear ho hgr hbl
             refine hK.out _ _ D.out.S (fun hS => ?_)
             try simp only [nrm]
             refine anyR 12 rfl ?_
             have ⟨⟨_, q0⟩, ⟨_, q1⟩, ⟨_, q2⟩, ⟨_, q3⟩, ⟨_, q4⟩, ⟨_, q5⟩, _⟩ := D.out.kept.cells
             have fr := (D.out.kept.free (w.heap.size + 1) (List.mem_singleton.2 rfl)).2
             refine anyC 13 rfl fun K hK => ?_
             go_simp
             refine hK.out _ _ ⟨(set_far (by simp)).trans ((set_far (by simp)).trans ((set_far (by simp)).trans q0)), (set_far (by simp)).trans ((set_far (by simp)).trans ((set_far (by simp)).trans q1)), (set_far (by simp)).trans ((set_far (by simp)).trans ((set_far (by simp)).trans q2))⟩ (fun _ => ?_)
             try simp only [nrm]
             refine wpAnyH_done (by kernel_rfl) ?_ _
             go_wp2
             refine bodyPost_ret (results_one rfl _ _ _ [.slice (some ⟨g3, 0, none⟩) T.length k3, .slice (some ⟨g7, 0, none⟩) O.length k7, .slice (some ⟨g11, 0, none⟩) P.length k11] rfl (set_three (u0 := .slice none 0 0) (u1 := .slice none 0 0) (u2 := .slice none 0 0) _ _ _ q3 q4 q5) Tryz.underlying27 rfl (by kernel_rfl)) rfl ?_
             exact cp_fin D.out
       · go_simp
         have D : Hid _ := D.out.alloc8
         obtain ⟨x4, hx⟩ : ∃ x, x3.alloc (.cells #[] 53) = x := ⟨_, rfl⟩
         rw [hx] at D ⊢
         clear hx
         refine hK.out _ _ D.out.S (fun hS => ?_)
         try simp only [nrm]
         refine anyC 7 rfl fun K hK => ?_
         · rw [if_pos (by rfl)]
           refine wp_append_two _ _ _ 25 rfl (w.heap.size + 2) 53 iB _ 4 32 Tryz.underlying25 hiB zB0 zB1 zB2 rfl (by decide) _ _ _ rfl D.out.r4 ⟨bO, oO, none⟩ O.length cO (flatQ O) rfl (flatQ_length O) (quad_news (hO.here D.out.kept.hb)) (flatQ_cell O) (by rw [List.length_nil]; unfold maxLen; omega) (by rw [List.length_nil]; omega) D.out.sz (by omega) ?_
           intro vn x5 ho hgr hbl
           rw [List.length_nil, Nat.zero_add, show flatQ [] ++ flatQ O = flatQ O from rfl] at ho
           obtain ⟨g7, k7, rfl, _, _⟩ := own_someC ho nO.1
           have D : Hid _ := D.out.app4 hgr ho hbl
           clear ho hgr hbl
           refine hK.out _ _ D.out.S (fun hS => ?_)
           try simp only [nrm]
           refine anyC 11 rfl fun K hK => ?_
           · rw [if_pos (by rfl)]
             refine wp_append_two _ _ _ 25 rfl (w.heap.size + 2) 53 iB _ 4 32 Tryz.underlying25 hiB zB0 zB1 zB2 rfl (by decide) _ _ _ rfl D.out.r8 ⟨bP, oP, none⟩ P.length cP (flatQ P) rfl (flatQ_length P) (quad_news (hP.here D.out.kept.hb)) (flatQ_cell P) (by rw [List.length_nil]; unfold maxLen; omega) (by rw [List.length_nil]; omega) D.out.sz (by omega) ?_
             intro vn x6 ho hgr hbl
             rw [List.length_nil, Nat.zero_add, show flatQ [] ++ flatQ P = flatQ P from rfl] at ho
             obtain ⟨g11, k11, rfl, _, _⟩ := own_someC ho nP.1
             have D : Hid _ := D.out.app8 hgr ho hbl
             clear ho hgr hbl
             refine hK.out _ _ D.out.S (fun hS => ?_)
             try simp only [nrm]
             refine anyR 12 rfl ?_
             have ⟨⟨_, q0⟩, ⟨_, q1⟩, ⟨_, q2⟩, ⟨_, q3⟩, ⟨_, q4⟩, ⟨_, q5⟩, _⟩ := D.out.kept.cells
             have fr := (D.out.kept.free (w.heap.size + 1) (List.mem_singleton.2 rfl)).2
             refine anyC 13 rfl fun K hK => ?_
             go_simp
             refine hK.out _ _ ⟨(set_far (by simp)).trans ((set_far (by simp)).trans ((set_far (by simp)).trans q0)), (set_far (by simp)).trans ((set_far (by simp)).trans ((set_far (by simp)).trans q1)), (set_far (by simp)).trans ((set_far (by simp)).trans ((set_far (by simp)).trans q2))⟩ (fun _ => ?_)
             try simp only [nrm]
             refine wpAnyH_done (by kernel_rfl) ?_ _
             go_wp2
             refine bodyPost_ret (results_one rfl _ _ _ [.slice (some ⟨g3, 0, none⟩) T.length k3, .slice (some ⟨g7, 0, none⟩) O.length k7, .slice (some ⟨g11, 0, none⟩) P.length k11] rfl (set_three (u0 := .slice none 0 0) (u1 := .slice none 0 0) (u2 := .slice none 0 0) _ _ _ q3 q4 q5) Tryz.underlying27 rfl (by kernel_rfl)) rfl ?_
             exact cp_fin D.out
     · go_simp
       have D : Hid _ := D.out.alloc8
       obtain ⟨x3, hx⟩ : ∃ x, x2.alloc (.cells #[] 53) = x := ⟨_, rfl⟩
       rw [hx] at D ⊢
       clear hx
       refine hK.out _ _ D.out.S (fun hS => ?_)
       try simp only [nrm]
       refine anyC 3 rfl fun K hK => ?_
       · rw [if_pos (by rfl)]
         refine wp_append_two _ _ _ 24 rfl (w.heap.size + 2) 110 iC _ 4 32 Tryz.underlying24 hiC zC0 zC1 zC2 rfl (by decide) _ _ _ rfl D.out.r0 ⟨bT, oT, none⟩ T.length cT (flatQ T) rfl (flatQ_length T) (quad_news (hT.here D.out.kept.hb)) (flatQ_cell T) (by rw [List.length_nil]; unfold maxLen; omega) (by rw [List.length_nil]; omega) D.out.sz (by omega) ?_
         intro vn x4 ho hgr hbl
         rw [List.length_nil, Nat.zero_add, show flatQ [] ++ flatQ T = flatQ T from rfl] at ho
         obtain ⟨g3, k3, rfl, _, _⟩ := own_someC ho nT.1
         have D : Hid _ := D.out.app0 hgr ho
         clear ho hgr hbl
         refine hK.out _ _ D.out.S (fun hS => ?_)
         try simp only [nrm]
         refine anyC 7 rfl fun K hK => ?_
         · rw [if_pos (by rfl)]
           refine wp_append_two _ _ _ 25 rfl (w.heap.size + 2) 53 iB _ 4 32 Tryz.underlying25 hiB zB0 zB1 zB2 rfl (by decide) _ _ _ rfl D.out.r4 ⟨bO, oO, none⟩ O.length cO (flatQ O) rfl (flatQ_length O) (quad_news (hO.here D.out.kept.hb)) (flatQ_cell O) (by rw [List.length_nil]; unfold maxLen; omega) (by rw [List.length_nil]; omega) D.out.sz (by omega) ?_
           intro vn x5 ho hgr hbl
           rw [List.length_nil, Nat.zero_add, show flatQ [] ++ flatQ O = flatQ O from rfl] at ho
           obtain ⟨g7, k7, rfl, _, _⟩ := own_someC ho nO.1
           have D : Hid _ := D.out.app4 hgr ho hbl
           clear ho hgr hbl
           refine hK.out _ _ D.out.S (fun hS => ?_)
           try simp only [nrm]
           refine anyC 11 rfl fun K hK => ?_
           · rw [if_pos (by rfl)]
             refine wp_append_two _ _ _ 25 rfl (w.heap.size + 2) 53 iB _ 4 32 Tryz.underlying25 hiB zB0 zB1 zB2 rfl (by decide) _ _ _ rfl D.out.r8 ⟨bP, oP, none⟩ P.length cP (flatQ P) rfl (flatQ_length P) (quad_news (hP.here D.out.kept.hb)) (flatQ_cell P) (by rw [List.length_nil]; unfold maxLen; omega) (by rw [List.length_nil]; omega) D.out.sz (by omega) ?_
             intro vn x6 ho hgr hbl
             rw [List.length_nil, Nat.zero_add, show flatQ [] ++ flatQ P = flatQ P from rfl] at ho
             obtain ⟨g11, k11, rfl, _, _⟩ := own_someC ho nP.1
             have D : Hid _ := D.out.app8 hgr ho hbl
             clear ho hgr hbl
             refine hK.out _ _ D.out.S (fun hS => ?_)
             try simp only [nrm]
             refine anyR 12 rfl ?_
             have ⟨⟨_, q0⟩, ⟨_, q1⟩, ⟨_, q2⟩, ⟨_, q3⟩, ⟨_, q4⟩, ⟨_, q5⟩, _⟩ := D.out.kept.cells
             have fr := (D.out.kept.free (w.heap.size + 1) (List.mem_singleton.2 rfl)).2
             refine anyC 13 rfl fun K hK => ?_
             go_simp
             refine hK.out _ _ ⟨(set_far (by simp)).trans ((set_far (by simp)).trans ((set_far (by simp)).trans q0)), (set_far (by simp)).trans ((set_far (by simp)).trans ((set_far (by simp)).trans q1)), (set_far (by simp)).trans ((set_far (by simp)).trans ((set_far (by simp)).trans q2))⟩ (fun _ => ?_)
             try simp only [nrm]
             refine wpAnyH_done (by kernel_rfl) ?_ _
             go_wp2
             refine bodyPost_ret (results_one rfl _ _ _ [.slice (some ⟨g3, 0, none⟩) T.length k3, .slice (some ⟨g7, 0, none⟩) O.length k7, .slice (some ⟨g11, 0, none⟩) P.length k11] rfl (set_three (u0 := .slice none 0 0) (u1 := .slice none 0 0) (u2 := .slice none 0 0) _ _ _ q3 q4 q5) Tryz.underlying27 rfl (by kernel_rfl)) rfl ?_
             exact cp_fin D.out
   · go_simp
     have D : Hid _ := D.out.alloc8
     obtain ⟨x2, hx⟩ : ∃ x, x1.alloc (.cells #[] 53) = x := ⟨_, rfl⟩
     rw [hx] at D ⊢
     clear hx
     refine hK.out _ _ D.out.S (fun hS => ?_)
     try simp only [nrm]
     refine anyC 0 rfl fun K hK => ?_
     · go_simp
       have D : Hid _ := D.out.alloc0
       obtain ⟨x3, hx⟩ : ∃ x, x2.alloc (.cells #[] 110) = x := ⟨_, rfl⟩
       rw [hx] at D ⊢
       clear hx
       refine hK.out _ _ D.out.S (fun hS => ?_)
       try simp only [nrm]
       refine anyC 3 rfl fun K hK => ?_
       · rw [if_pos (by rfl)]
         refine wp_append_two _ _ _ 24 rfl (w.heap.size + 2) 110 iC _ 4 32 Tryz.underlying24 hiC zC0 zC1 zC2 rfl (by decide) _ _ _ rfl D.out.r0 ⟨bT, oT, none⟩ T.length cT (flatQ T) rfl (flatQ_length T) (quad_news (hT.here D.out.kept.hb)) (flatQ_cell T) (by rw [List.length_nil]; unfold maxLen; omega) (by rw [List.length_nil]; omega) D.out.sz (by omega) ?_
         intro vn x4 ho hgr hbl
         rw [List.length_nil, Nat.zero_add, show flatQ [] ++ flatQ T = flatQ T from rfl] at ho
         obtain ⟨g3, k3, rfl, _, _⟩ := own_someC ho nT.1
         have D : Hid _ := D.out.app0 hgr ho
         clear ho hgr hbl
         refine hK.out _ _ D.out.S (fun hS => ?_)
         try simp only [nrm]
         refine anyC 7 rfl fun K hK => ?_
         · rw [if_pos (by rfl)]
           refine wp_append_two _ _ _ 25 rfl (w.heap.size + 2) 53 iB _ 4 32 Tryz.underlying25 hiB zB0 zB1 zB2 rfl (by decide) _ _ _ rfl D.out.r4 ⟨bO, oO, none⟩ O.length cO (flatQ O) rfl (flatQ_length O) (quad_news (hO.here D.out.kept.hb)) (flatQ_cell O) (by rw [List.length_nil]; unfold maxLen; omega) (by rw [List.length_nil]; omega) D.out.sz (by omega) ?_
           intro vn x5 ho hgr hbl
           rw [List.length_nil, Nat.zero_add, show flatQ [] ++ flatQ O = flatQ O from rfl] at ho
           obtain ⟨g7, k7, rfl, _, _⟩ := own_someC ho nO.1
           have D : Hid _ := D.out.app4 hgr ho hbl
           clear ho hgr hbl
           refine hK.out _ _ D.out.S (fun hS => ?_)
           try simp only [nrm]
           refine anyC 11 rfl fun K hK => ?_
           · rw [if_pos (by rfl)]
             refine wp_append_two _ _ _ 25 rfl (w.heap.size + 2) 53 iB _ 4 32 Tryz.underlying25 hiB zB0 zB1 zB2 rfl (by decide) _ _ _ rfl D.out.r8 ⟨bP, oP, none⟩ P.length cP (flatQ P) rfl (flatQ_length P) (quad_news (hP.here D.out.kept.hb)) (flatQ_cell P) (by rw [List.length_nil]; unfold maxLen; omega) (by rw [List.length_nil]; omega) D.out.sz (by omega) ?_
             intro vn x6 ho hgr hbl
             rw [List.length_nil, Nat.zero_add, show flatQ [] ++ flatQ P = flatQ P from rfl] at ho
             obtain ⟨g11, k11, rfl, _, _⟩ := own_someC ho nP.1
             have D : Hid _ := D.out.app8 hgr ho hbl
             clear ho hgr hbl
             refine hK.out _ _ D.out.S (fun hS => ?_)
             try simp only [nrm]
             refine anyR 12 rfl ?_
             have ⟨⟨_, q0⟩, ⟨_, q1⟩, ⟨_, q2⟩, ⟨_, q3⟩, ⟨_, q4⟩, ⟨_, q5⟩, _⟩ := D.out.kept.cells
             have fr := (D.out.kept.free (w.heap.size + 1) (List.mem_singleton.2 rfl)).2
             refine anyC 13 rfl fun K hK => ?_
             go_simp
             refine hK.out _ _ ⟨(set_far (by simp)).trans ((set_far (by simp)).trans ((set_far (by simp)).trans q0)), (set_far (by simp)).trans ((set_far (by simp)).trans ((set_far (by simp)).trans q1)), (set_far (by simp)).trans ((set_far (by simp)).trans ((set_far (by simp)).trans q2))⟩ (fun _ => ?_)
             try simp only [nrm]
             refine wpAnyH_done (by kernel_rfl) ?_ _
             go_wp2
             refine bodyPost_ret (results_one rfl _ _ _ [.slice (some ⟨g3, 0, none⟩) T.length k3, .slice (some ⟨g7, 0, none⟩) O.length k7, .slice (some ⟨g11, 0, none⟩) P.length k11] rfl (set_three (u0 := .slice none 0 0) (u1 := .slice none 0 0) (u2 := .slice none 0 0) _ _ _ q3 q4 q5) Tryz.underlying27 rfl (by kernel_rfl)) rfl ?_
             exact cp_fin D.out
 · go_simp
   have D : Hid _ := D.out.alloc8
   obtain ⟨x1, hx⟩ : ∃ x, x0.alloc (.cells #[] 53) = x := ⟨_, rfl⟩
   rw [hx] at D ⊢
   clear hx
   refine hK.out _ _ D.out.S (fun hS => ?_)
   try simp only [nrm]
   refine wpAnyH_ready (rs := [0, 4]) (by kernel_rfl) (by simp) (AllReadyH.cons rfl (fun K hK => ?_) (AllReadyH.cons rfl (fun K hK => ?_) AllReadyH.nil))
   · go_simp
     have D : Hid _ := D.out.alloc0
     obtain ⟨x2, hx⟩ : ∃ x, x1.alloc (.cells #[] 110) = x := ⟨_, rfl⟩
     rw [hx] at D ⊢
     clear hx
     refine hK.out _ _ D.out.S (fun hS => ?_)
     try simp only [nrm]
     refine wpAnyH_ready (rs := [3, 4]) (by kernel_rfl) (by simp) (AllReadyH.cons rfl (fun K hK => ?_) (AllReadyH.cons rfl (fun K hK => ?_) AllReadyH.nil))
     · rw [if_pos (by rfl)]
       refine wp_append_two _ _ _ 24 rfl (w.heap.size + 2) 110 iC _ 4 32 Tryz.underlying24 hiC zC0 zC1 zC2 rfl (by decide) _ _ _ rfl D.out.r0 ⟨bT, oT, none⟩ T.length cT (flatQ T) rfl (flatQ_length T) (quad_news (hT.here D.out.kept.hb)) (flatQ_cell T) (by rw [List.length_nil]; unfold maxLen; omega) (by rw [List.length_nil]; omega) D.out.sz (by omega) ?_
       intro vn x3 ho hgr hbl
       rw [List.length_nil, Nat.zero_add, show flatQ [] ++ flatQ T = flatQ T from rfl] at ho
       obtain ⟨g3, k3, rfl, _, _⟩ := own_someC ho nT.1
       have D : Hid _ := D.out.app0 hgr ho
       clear ho hgr hbl
       refine hK.out _ _ D.out.S (fun hS => ?_)
       try simp only [nrm]
       refine anyC 4 rfl fun K hK => ?_
       · go_simp
         have D : Hid _ := D.out.alloc4
         obtain ⟨x4, hx⟩ : ∃ x, x3.alloc (.cells #[] 53) = x := ⟨_, rfl⟩
         rw [hx] at D ⊢
         clear hx
         refine hK.out _ _ D.out.S (fun hS => ?_)
         try simp only [nrm]
         refine anyC 7 rfl fun K hK => ?_
         · rw [if_pos (by rfl)]
           refine wp_append_two _ _ _ 25 rfl (w.heap.size + 2) 53 iB _ 4 32 Tryz.underlying25 hiB zB0 zB1 zB2 rfl (by decide) _ _ _ rfl D.out.r4 ⟨bO, oO, none⟩ O.length cO (flatQ O) rfl (flatQ_length O) (quad_news (hO.here D.out.kept.hb)) (flatQ_cell O) (by rw [List.length_nil]; unfold maxLen; omega) (by rw [List.length_nil]; omega) D.out.sz (by omega) ?_
           intro vn x5 ho hgr hbl
           rw [List.length_nil, Nat.zero_add, show flatQ [] ++ flatQ O = flatQ O from rfl] at ho
           obtain ⟨g7, k7, rfl, _, _⟩ := own_someC ho nO.1
           have D : Hid _ := D.out.app4 hgr ho hbl
           clear ho hgr hbl
           refine hK.out _ _ D.out.S (fun hS => ?_)
           try simp only [nrm]
           refine anyC 11 rfl fun K hK => ?_
           · rw [if_pos (by rfl)]
             refine wp_append_two _ _ _ 25 rfl (w.heap.size + 2) 53 iB _ 4 32 Tryz.underlying25 hiB zB0 zB1 zB2 rfl (by decide) _ _ _ rfl D.out.r8 ⟨bP, oP, none⟩ P.length cP (flatQ P) rfl (flatQ_length P) (quad_news (hP.here D.out.kept.hb)) (flatQ_cell P) (by rw [List.length_nil]; unfold maxLen; omega) (by rw [List.length_nil]; omega) D.out.sz (by omega) ?_
             intro vn x6 ho hgr hbl
             rw [List.length_nil, Nat.zero_add, show flatQ [] ++ flatQ P = flatQ P from rfl] at ho
             obtain ⟨g11, k11, rfl, _, _⟩ := own_someC ho nP.1
             have D : Hid _ := D.out.app8 hgr ho hbl
             clear ho hgr hbl
             refine hK.out _ _ D.out.S (fun hS => ?_)
             try simp only [nrm]
             refine anyR 12 rfl ?_
             have ⟨⟨_, q0⟩, ⟨_, q1⟩, ⟨_, q2⟩, ⟨_, q3⟩, ⟨_, q4⟩, ⟨_, q5⟩, _⟩ := D.out.kept.cells
             have fr := (D.out.kept.free (w.heap.size + 1) (List.mem_singleton.2 rfl)).2
             refine anyC 13 rfl fun K hK => ?_
             go_simp
             refine hK.out _ _ ⟨(set_far (by simp)).trans ((set_far (by simp)).trans ((set_far (by simp)).trans q0)), (set_far (by simp)).trans ((set_far (by simp)).trans ((set_far (by simp)).trans q1)), (set_far (by simp)).trans ((set_far (by simp)).trans ((set_far (by simp)).trans q2))⟩ (fun _ => ?_)
             try simp only [nrm]
             refine wpAnyH_done (by kernel_rfl) ?_ _
             go_wp2
             refine bodyPost_ret (results_one rfl _ _ _ [.slice (some ⟨g3, 0, none⟩) T.length k3, .slice (some ⟨g7, 0, none⟩) O.length k7, .slice (some ⟨g11, 0, none⟩) P.length k11] rfl (set_three (u0 := .slice none 0 0) (u1 := .slice none 0 0) (u2 := .slice none 0 0) _ _ _ q3 q4 q5) Tryz.underlying27 rfl (by kernel_rfl)) rfl ?_
             exact cp_fin D.out
     · go_simp
       have D : Hid _ := D.out.alloc4
       obtain ⟨x3, hx⟩ : ∃ x, x2.alloc (.cells #[] 53) = x := ⟨_, rfl⟩
       rw [hx] at D ⊢
       clear hx
       refine hK.out _ _ D.out.S (fun hS => ?_)
       try simp only [nrm]
       refine anyC 3 rfl fun K hK => ?_
       · rw [if_pos (by rfl)]
         refine wp_append_two _ _ _ 24 rfl (w.heap.size + 2) 110 iC _ 4 32 Tryz.underlying24 hiC zC0 zC1 zC2 rfl (by decide) _ _ _ rfl D.out.r0 ⟨bT, oT, none⟩ T.length cT (flatQ T) rfl (flatQ_length T) (quad_news (hT.here D.out.kept.hb)) (flatQ_cell T) (by rw [List.length_nil]; unfold maxLen; omega) (by rw [List.length_nil]; omega) D.out.sz (by omega) ?_
         intro vn x4 ho hgr hbl
         rw [List.length_nil, Nat.zero_add, show flatQ [] ++ flatQ T = flatQ T from rfl] at ho
         obtain ⟨g3, k3, rfl, _, _⟩ := own_someC ho nT.1
         have D : Hid _ := D.out.app0 hgr ho
         clear ho hgr hbl
         refine hK.out _ _ D.out.S (fun hS => ?_)
         try simp only [nrm]
         refine anyC 7 rfl fun K hK => ?_
         · rw [if_pos (by rfl)]
           refine wp_append_two _ _ _ 25 rfl (w.heap.size + 2) 53 iB _ 4 32 Tryz.underlying25 hiB zB0 zB1 zB2 rfl (by decide) _ _ _ rfl D.out.r4 ⟨bO, oO, none⟩ O.length cO (flatQ O) rfl (flatQ_length O) (quad_news (hO.here D.out.kept.hb)) (flatQ_cell O) (by rw [List.length_nil]; unfold maxLen; omega) (by rw [List.length_nil]; omega) D.out.sz (by omega) ?_
           intro vn x5 ho hgr hbl
           rw [List.length_nil, Nat.zero_add, show flatQ [] ++ flatQ O = flatQ O from rfl] at ho
           obtain ⟨g7, k7, rfl, _, _⟩ := own_someC ho nO.1
           have D : Hid _ := D.out.app4 hgr ho hbl
           clear ho hgr hbl
           refine hK.out _ _ D.out.S (fun hS => ?_)
           try simp only [nrm]
           refine anyC 11 rfl fun K hK => ?_
           · rw [if_pos (by rfl)]
             refine wp_append_two _ _ _ 25 rfl (w.heap.size + 2) 53 iB _ 4 32 Tryz.underlying25 hiB zB0 zB1 zB2 rfl (by decide) _ _ _ rfl D.out.r8 ⟨bP, oP, none⟩ P.length cP (flatQ P) rfl (flatQ_length P) (quad_news (hP.here D.out.kept.hb)) (flatQ_cell P) (by rw [List.length_nil]; unfold maxLen; omega) (by rw [List.length_nil]; omega) D.out.sz (by omega) ?_
             intro vn x6 ho hgr hbl
             rw [List.length_nil, Nat.zero_add, show flatQ [] ++ flatQ P = flatQ P from rfl] at ho
             obtain ⟨g11, k11, rfl, _, _⟩ := own_someC ho nP.1
             have D : Hid _ := D.out.app8 hgr ho hbl
             clear ho hgr hbl
             refine hK.out _ _ D.out.S (fun hS => ?_)
             try simp only [nrm]
             refine anyR 12 rfl ?_
             have ⟨⟨_, q0⟩, ⟨_, q1⟩, ⟨_, q2⟩, ⟨_, q3⟩, ⟨_, q4⟩, ⟨_, q5⟩, _⟩ := D.out.kept.cells
             have fr := (D.out.kept.free (w.heap.size + 1) (List.mem_singleton.2 rfl)).2
             refine anyC 13 rfl fun K hK => ?_
             go_simp
             refine hK.out _ _ ⟨(set_far (by simp)).trans ((set_far (by simp)).trans ((set_far (by simp)).trans q0)), (set_far (by simp)).trans ((set_far (by simp)).trans ((set_far (by simp)).trans q1)), (set_far (by simp)).trans ((set_far (by simp)).trans ((set_far (by simp)).trans q2))⟩ (fun _ => ?_)
             try simp only [nrm]
             refine wpAnyH_done (by kernel_rfl) ?_ _
             go_wp2
             refine bodyPost_ret (results_one rfl _ _ _ [.slice (some ⟨g3, 0, none⟩) T.length k3, .slice (some ⟨g7, 0, none⟩) O.length k7, .slice (some ⟨g11, 0, none⟩) P.length k11] rfl (set_three (u0 := .slice none 0 0) (u1 := .slice none 0 0) (u2 := .slice none 0 0) _ _ _ q3 q4 q5) Tryz.underlying27 rfl (by kernel_rfl)) rfl ?_
             exact cp_fin D.out
   · go_simp
     have D : Hid _ := D.out.alloc4
     obtain ⟨x2, hx⟩ : ∃ x, x1.alloc (.cells #[] 53) = x := ⟨_, rfl⟩
     rw [hx] at D ⊢
     clear hx
     refine hK.out _ _ D.out.S (fun hS => ?_)
     try simp only [nrm]
     refine anyC 0 rfl fun K hK => ?_
     · go_simp
       have D : Hid _ := D.out.alloc0
       obtain ⟨x3, hx⟩ : ∃ x, x2.alloc (.cells #[] 110) = x := ⟨_, rfl⟩
       rw [hx] at D ⊢
       clear hx
       refine hK.out _ _ D.out.S (fun hS => ?_)
       try simp only [nrm]
       refine anyC 3 rfl fun K hK => ?_
       · rw [if_pos (by rfl)]
         refine wp_append_two _ _ _ 24 rfl (w.heap.size + 2) 110 iC _ 4 32 Tryz.underlying24 hiC zC0 zC1 zC2 rfl (by decide) _ _ _ rfl D.out.r0 ⟨bT, oT, none⟩ T.length cT (flatQ T) rfl (flatQ_length T) (quad_news (hT.here D.out.kept.hb)) (flatQ_cell T) (by rw [List.length_nil]; unfold maxLen; omega) (by rw [List.length_nil]; omega) D.out.sz (by omega) ?_
         intro vn x4 ho hgr hbl
         rw [List.length_nil, Nat.zero_add, show flatQ [] ++ flatQ T = flatQ T from rfl] at ho
         obtain ⟨g3, k3, rfl, _, _⟩ := own_someC ho nT.1
         have D : Hid _ := D.out.app0 hgr ho
         clear ho hgr hbl
         refine hK.out _ _ D.out.S (fun hS => ?_)
         try simp only [nrm]
         refine anyC 7 rfl fun K hK => ?_
         · rw [if_pos (by rfl)]
           refine wp_append_two _ _ _ 25 rfl (w.heap.size + 2) 53 iB _ 4 32 Tryz.underlying25 hiB zB0 zB1 zB2 rfl (by decide) _ _ _ rfl D.out.r4 ⟨bO, oO, none⟩ O.length cO (flatQ O) rfl (flatQ_length O) (quad_news (hO.here D.out.kept.hb)) (flatQ_cell O) (by rw [List.length_nil]; unfold maxLen; omega) (by rw [List.length_nil]; omega) D.out.sz (by omega) ?_
           intro vn x5 ho hgr hbl
           rw [List.length_nil, Nat.zero_add, show flatQ [] ++ flatQ O = flatQ O from rfl] at ho
           obtain ⟨g7, k7, rfl, _, _⟩ := own_someC ho nO.1
           have D : Hid _ := D.out.app4 hgr ho hbl
           clear ho hgr hbl
           refine hK.out _ _ D.out.S (fun hS => ?_)
           try simp only [nrm]
           refine anyC 11 rfl fun K hK => ?_
           · rw [if_pos (by rfl)]
             refine wp_append_two _ _ _ 25 rfl (w.heap.size + 2) 53 iB _ 4 32 Tryz.underlying25 hiB zB0 zB1 zB2 rfl (by decide) _ _ _ rfl D.out.r8 ⟨bP, oP, none⟩ P.length cP (flatQ P) rfl (flatQ_length P) (quad_news (hP.here D.out.kept.hb)) (flatQ_cell P) (by rw [List.length_nil]; unfold maxLen; omega) (by rw [List.length_nil]; omega) D.out.sz (by omega) ?_
             intro vn x6 ho hgr hbl
             rw [List.length_nil, Nat.zero_add, show flatQ [] ++ flatQ P = flatQ P from rfl] at ho
             obtain ⟨g11, k11, rfl, _, _⟩ := own_someC ho nP.1
             have D : Hid _ := D.out.app8 hgr ho hbl
             clear ho hgr hbl
             refine hK.out _ _ D.out.S (fun hS => ?_)
             try simp only [nrm]
             refine anyR 12 rfl ?_
             have ⟨⟨_, q0⟩, ⟨_, q1⟩, ⟨_, q2⟩, ⟨_, q3⟩, ⟨_, q4⟩, ⟨_, q5⟩, _⟩ := D.out.kept.cells
             have fr := (D.out.kept.free (w.heap.size + 1) (List.mem_singleton.2 rfl)).2
             refine anyC 13 rfl fun K hK => ?_
             go_simp
             refine hK.out _ _ ⟨(set_far (by simp)).trans ((set_far (by simp)).trans ((set_far (by simp)).trans q0)), (set_far (by simp)).trans ((set_far (by simp)).trans ((set_far (by simp)).trans q1)), (set_far (by simp)).trans ((set_far (by simp)).trans ((set_far (by simp)).trans q2))⟩ (fun _ => ?_)
             try simp only [nrm]
             refine wpAnyH_done (by kernel_rfl) ?_ _
             go_wp2
             refine bodyPost_ret (results_one rfl _ _ _ [.slice (some ⟨g3, 0, none⟩) T.length k3, .slice (some ⟨g7, 0, none⟩) O.length k7, .slice (some ⟨g11, 0, none⟩) P.length k11] rfl (set_three (u0 := .slice none 0 0) (u1 := .slice none 0 0) (u2 := .slice none 0 0) _ _ _ q3 q4 q5) Tryz.underlying27 rfl (by kernel_rfl)) rfl ?_
             exact cp_fin D.out
theorem OnlyP.two {p : Nat → Prop} {u v w : World} (h : OnlyP p u v) (k : OnlyP p v w) : OnlyP p u w := (h.trans k).weak (fun b e => e.elim id id)
theorem OnlyP.ofOnly {p : Nat → Prop} {g : Nat} {w w' : World} (h : Only g w w') (hg : p g) : OnlyP p w w' := ⟨h.os, h.tape, h.output, h.size, fun k hk hn => h.block k hk (fun e => hn (by rw [e]; exact hg))⟩
theorem OnlyP.ofO {p : Nat → Prop} {o : Option Nat} {w w' : World} (h : OnlyO o w w') (hg : ∀ g, o = some g → p g) : OnlyP p w w' := ⟨h.os, h.tape, h.output, h.size, fun k hk hn => h.block k hk (fun e => hn (hg k e))⟩
theorem OnlyP.ofI {p : Nat → Prop} {lo hi : Nat} {w w' : World} (h : OnlyI lo hi w w') (hg : ∀ g, lo ≤ g → g < hi → p g) : OnlyP p w w' := ⟨h.os, h.tape, h.output, h.size, fun k hk hn => h.block k hk (by
  by_cases h1 : lo ≤ k
  · by_cases h2 : k < hi
    · exact absurd (hg k h1 h2) hn
    · omega
  · omega)⟩
/-- Block g and those of the lists vs. -/
def inG (g : Nat) (vs : List Value) (b : Nat) : Prop := b = g ∨ ∃ u ∈ vs, elB u = some b
/-- The blocks of a list v of things whose lists are vs. -/
def inV : Value → List Value → Nat → Prop
  | .slice (some a) _ _, vs, b => vs ≠ [] ∧ inG a.block vs b
  | _, _, _ => False
theorem inV_nil (v : Value) (b : Nat) : ¬ inV v [] b := fun h => by
 unfold inV at h
 split at h
 · exact h.1 rfl
 · exact h
theorem inG_set {g i : Nat} {vs : List Value} {u : Value} {b : Nat} (h : inG g (vs.set i u) b) : inG g vs b ∨ elB u = some b := by
 rcases h with h | ⟨x, hx, e⟩
 · exact .inl (.inl h)
 · rcases List.mem_or_eq_of_mem_set hx with h | h
   · exact .inl (.inr ⟨x, h, e⟩)
   · rw [h] at e
     exact .inr e
theorem FO.sameG {w w' : World} {lo hi g : Nat} {vs : List Value} {fs : List F8} (h : FO w lo hi g fs.length vs fs) (hs : w.heap.size ≤ w'.heap.size) (hb : vs ≠ [] → ∀ b, inG g vs b → w'.heap[b]? = w.heap[b]?) : FO w' lo hi g fs.length vs fs := by
 by_cases hn : vs = []
 · have hl := h.len
   rw [hn] at hl
   have hf : fs = [] := List.eq_nil_of_length_eq_zero hl.symm
   subst hn hf
   exact ⟨h.g0, h.g1, Nat.le_trans h.top hs, h.len, h.le, (fun j hj => by simp at hj), (fun i hi' => by cases hi'), (fun i hi' => by cases hi'), h.far, h.apart⟩
 · have hb := hb hn
   have eg := hb g (.inl rfl)
   refine ⟨h.g0, h.g1, Nat.le_trans h.top hs, h.len, h.le, fun j hj => ?_, fun i hi' h' => ?_, fun i hi' h' => ?_, h.far, h.apart⟩
   · obtain ⟨⟨z, hz⟩, hf⟩ := h.any j hj
     exact ⟨⟨z, (World.cell?_of_block (a := ⟨g, j, none⟩) eg).trans hz⟩, (World.frozen?_of_block (a := ⟨g, j, none⟩) eg).trans hf⟩
   · obtain ⟨c0, c1, c2⟩ := h.got i hi' h'
     exact ⟨(World.cell?_of_block (a := ⟨g, i * 3, none⟩) eg).trans c0, (World.cell?_of_block (a := ⟨g, i * 3 + 1, none⟩) eg).trans c1, (World.cell?_of_block (a := ⟨g, i * 3 + 2, none⟩) eg).trans c2⟩
   · exact (h.own i hi' h').same hs (fun b e => hb b (.inr ⟨_, List.getElem_mem h', e⟩))
theorem KO.sameG {w w' : World} {lo hi g : Nat} {vs : List Value} {ks : List Kn} (h : KO w lo hi g ks.length vs ks) (hs : w.heap.size ≤ w'.heap.size) (hb : vs ≠ [] → ∀ b, inG g vs b → w'.heap[b]? = w.heap[b]?) : KO w' lo hi g ks.length vs ks := by
 by_cases hn : vs = []
 · have hl := h.len
   rw [hn] at hl
   have hf : ks = [] := List.eq_nil_of_length_eq_zero hl.symm
   subst hn hf
   exact ⟨h.g0, h.g1, Nat.le_trans h.top hs, h.len, h.le, (fun j hj => by simp at hj), (fun i hi' => by cases hi'), (fun i hi' => by cases hi'), h.far, h.apart⟩
 · have hb := hb hn
   have eg := hb g (.inl rfl)
   refine ⟨h.g0, h.g1, Nat.le_trans h.top hs, h.len, h.le, fun j hj => ?_, fun i hi' h' => ?_, fun i hi' h' => ?_, h.far, h.apart⟩
   · obtain ⟨⟨z, hz⟩, hf⟩ := h.any j hj
     exact ⟨⟨z, (World.cell?_of_block (a := ⟨g, j, none⟩) eg).trans hz⟩, (World.frozen?_of_block (a := ⟨g, j, none⟩) eg).trans hf⟩
   · obtain ⟨c0, c1⟩ := h.got i hi' h'
     exact ⟨fun j v hv => (World.cell?_of_block (a := ⟨g, i * 14 + j, none⟩) eg).trans (c0 j v hv), (World.cell?_of_block (a := ⟨g, i * 14 + 13, none⟩) eg).trans c1⟩
   · exact (h.own i hi' h').same hs (fun b e => hb b (.inr ⟨_, List.getElem_mem h', e⟩))
/-- v is the list fs of flows (places), their lists are vs; all in blocks from lo up to hi; no block serves twice. -/
def TX (w : World) (lo hi : Nat) (v : Value) (vs : List Value) (fs : List F8) : Prop :=
 (∃ g cap, v = .slice (some ⟨g, 0, none⟩) fs.length cap ∧ fs.length ≤ cap ∧ FO w lo hi g fs.length vs fs) ∨ (fs = [] ∧ vs = [] ∧ ∃ a c, v = .slice a 0 c)
def KX (w : World) (lo hi : Nat) (v : Value) (vs : List Value) (ks : List Kn) : Prop :=
 (∃ g cap, v = .slice (some ⟨g, 0, none⟩) ks.length cap ∧ ks.length ≤ cap ∧ KO w lo hi g ks.length vs ks) ∨ (ks = [] ∧ vs = [] ∧ ∃ a c, v = .slice a 0 c)
section
variable {w w' : World} {lo hi : Nat} {v : Value} {vs : List Value} {fs : List F8} {ks : List Kn}
theorem TX.bd (h : TX w lo hi v vs fs) {b : Nat} (hb : inV v vs b) : lo ≤ b ∧ b < hi ∧ b < w.heap.size := by
 rcases h with ⟨g, cap, rfl, hc, f⟩ | ⟨rfl, rfl, _⟩
 · rcases hb.2 with e | ⟨u, hu, e⟩
   · have e : b = g := e
     subst e
     exact ⟨f.g0, f.g1, Nat.lt_of_lt_of_le f.g1 f.top⟩
   · obtain ⟨i, hi', rfl⟩ := List.mem_iff_getElem.1 hu
     exact (f.own i (by rw [← f.len]; exact hi') hi').el e
 · exact absurd hb (inV_nil _ _)
theorem KX.bd (h : KX w lo hi v vs ks) {b : Nat} (hb : inV v vs b) : lo ≤ b ∧ b < hi ∧ b < w.heap.size := by
 rcases h with ⟨g, cap, rfl, hc, f⟩ | ⟨rfl, rfl, _⟩
 · rcases hb.2 with e | ⟨u, hu, e⟩
   · have e : b = g := e
     subst e
     exact ⟨f.g0, f.g1, Nat.lt_of_lt_of_le f.g1 f.top⟩
   · obtain ⟨i, hi', rfl⟩ := List.mem_iff_getElem.1 hu
     exact (f.own i (by rw [← f.len]; exact hi') hi').el e
 · exact absurd hb (inV_nil _ _)
theorem TX.same (h : TX w lo hi v vs fs) (hs : w.heap.size ≤ w'.heap.size) (hb : ∀ b, inV v vs b → w'.heap[b]? = w.heap[b]?) : TX w' lo hi v vs fs := by
 rcases h with ⟨g, cap, rfl, hc, f⟩ | h
 · exact .inl ⟨g, cap, rfl, hc, f.sameG hs (fun hn b hg => hb b ⟨hn, hg⟩)⟩
 · exact .inr h
theorem KX.same (h : KX w lo hi v vs ks) (hs : w.heap.size ≤ w'.heap.size) (hb : ∀ b, inV v vs b → w'.heap[b]? = w.heap[b]?) : KX w' lo hi v vs ks := by
 rcases h with ⟨g, cap, rfl, hc, f⟩ | h
 · exact .inl ⟨g, cap, rfl, hc, f.sameG hs (fun hn b hg => hb b ⟨hn, hg⟩)⟩
 · exact .inr h
theorem TX.next (h : TX w lo hi v vs fs) (hb : Below w.heap.size w w') : TX w' lo hi v vs fs := h.same hb.size (fun b hv => hb.block b (h.bd hv).2.2)
theorem KX.next (h : KX w lo hi v vs ks) (hb : Below w.heap.size w w') : KX w' lo hi v vs ks := h.same hb.size (fun b hv => hb.block b (h.bd hv).2.2)
theorem TX.onlyP {p : Nat → Prop} (h : TX w lo hi v vs fs) (o : OnlyP p w w') (hn : ∀ b, inV v vs b → ¬ p b) : TX w' lo hi v vs fs := h.same o.size (fun b hv => o.block b (h.bd hv).2.2 (hn b hv))
theorem KX.onlyP {p : Nat → Prop} (h : KX w lo hi v vs ks) (o : OnlyP p w w') (hn : ∀ b, inV v vs b → ¬ p b) : KX w' lo hi v vs ks := h.same o.size (fun b hv => o.block b (h.bd hv).2.2 (hn b hv))
theorem TX.wider {lo' hi' : Nat} (h : TX w lo hi v vs fs) (h1 : lo' ≤ lo) (h2 : hi ≤ hi') (h3 : hi' ≤ w.heap.size) : TX w lo' hi' v vs fs := by
 rcases h with ⟨g, cap, rfl, hc, f⟩ | h
 · exact .inl ⟨g, cap, rfl, hc, f.wider h1 h2 h3⟩
 · exact .inr h
theorem KX.wider {lo' hi' : Nat} (h : KX w lo hi v vs ks) (h1 : lo' ≤ lo) (h2 : hi ≤ hi') (h3 : hi' ≤ w.heap.size) : KX w lo' hi' v vs ks := by
 rcases h with ⟨g, cap, rfl, hc, f⟩ | h
 · exact .inl ⟨g, cap, rfl, hc, f.wider h1 h2 h3⟩
 · exact .inr h
theorem TX.fls {n c : Nat} {a : Option Addr} (h : TX w lo hi (.slice a n c) vs fs) : n = fs.length ∧ Fls w.heap.size w a fs := by
 rcases h with ⟨g, cap, e, hc, f⟩ | ⟨rfl, _, a', c', e⟩
 · injection e with e1 e2 e3
   subst e1 e2
   exact ⟨rfl, f.fls⟩
 · injection e with e1 e2 e3
   exact ⟨e2, Fls.nil _ _ _⟩
theorem KX.kls {n c : Nat} {a : Option Addr} (h : KX w lo hi (.slice a n c) vs ks) : n = ks.length ∧ Kls w.heap.size w a ks := by
 rcases h with ⟨g, cap, e, hc, f⟩ | ⟨rfl, _, a', c', e⟩
 · injection e with e1 e2 e3
   subst e1 e2
   exact ⟨rfl, f.kls⟩
 · injection e with e1 e2 e3
   exact ⟨e2, Kls.nil _ _ _⟩
theorem TV.tx (h : TV w lo hi v fs) : ∃ vs, TX w lo hi v vs fs := by
 rcases h with ⟨g, cap, vs, e, hc, f⟩ | ⟨h, a, c, e⟩
 · exact ⟨vs, .inl ⟨g, cap, e, hc, f⟩⟩
 · exact ⟨[], .inr ⟨h, rfl, a, c, e⟩⟩
theorem KV.kx (h : KV w lo hi v ks) : ∃ vs, KX w lo hi v vs ks := by
 rcases h with ⟨g, cap, vs, e, hc, f⟩ | ⟨h, a, c, e⟩
 · exact ⟨vs, .inl ⟨g, cap, e, hc, f⟩⟩
 · exact ⟨[], .inr ⟨h, rfl, a, c, e⟩⟩
theorem TX.tv (h : TX w lo hi v vs fs) : TV w lo hi v fs := by
 rcases h with ⟨g, cap, e, hc, f⟩ | ⟨h, _, a, c, e⟩
 · exact .inl ⟨g, cap, vs, e, hc, f⟩
 · exact .inr ⟨h, a, c, e⟩
theorem KX.kv (h : KX w lo hi v vs ks) : KV w lo hi v ks := by
 rcases h with ⟨g, cap, e, hc, f⟩ | ⟨h, _, a, c, e⟩
 · exact .inl ⟨g, cap, vs, e, hc, f⟩
 · exact .inr ⟨h, a, c, e⟩
end
end Go.Proofs.YthiojkjcmhojoaaGreat
