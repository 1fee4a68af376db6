/- What impl.TurnsOk answers. -/
import Derived.Test.YtibfclfidaofkasTurnMath
import Derived.Test.YtibfclfidaofkasGrpC
import Derived.Shelf.Abstract
import Derived.Deep.RegionHeld3
import Derived.Deep.DeepCutAuto
namespace Go.Proofs.Ytibfclfidaofkas
open Go.ChangeShapes Go.WideShapes Go.ChangeAt Go.RowKit
set_option maxRecDepth 100000
set_option linter.unusedVariables false
set_option linter.unusedSimpArgs false

theorem retU {f g : Bool} (h : f = g) : Ending.returned (.bool f) = .returned (.bool g) := by rw [h]
theorem undrewT {w w' : World} (h : Below w.drew.heap.size w.drew w') : Below w.heap.size w w' := (Below.refl _ _).drew.trans h
theorem iI_is {lo x hi : Int} {f : Bool} (h : inB lo x hi = f) (w : World) : Calls Try.prog 30 #[.int .i64 x, .int .i64 lo, .int .i64 hi] w fun e w' => e = .returned (.bool f) ∧ w' = w := by subst h; exact iwithin_any lo x hi w
theorem iSg_is_ImplTurn {x : Int} {f : Bool} (h : sg x = f) (w : World) : Calls Try.prog 106 #[.int .i64 x] w fun e w' => e = .returned (.bool f) ∧ w' = w := by
  go_enter Try.func106, Try.ntmps106
  go_wp2_with (first | (go_at_call 30; refine (iI_is h _).mono ?_; rintro e w2 ⟨rfl, rfl⟩))
  go_ret
  exact ⟨rfl, rfl⟩
theorem notSg_is {x : Int} {f : Bool} (h : sg x = f) (w : World) : Calls Try.prog 105 #[.int .i64 x] w fun e w' => e = .returned (.bool (!f)) ∧ w' = w := by
  go_enter Try.func105, Try.ntmps105
  go_wp2_with (first | (go_at_call 106; refine (iSg_is_ImplTurn h _).mono ?_; rintro e w2 ⟨rfl, rfl⟩))
  go_ret
  exact ⟨rfl, rfl⟩
def IxPost (xs : List Int) (w : World) (e : Ending) (w' : World) : Prop := ∃ z : Int, e = .returned (.int .i64 z) ∧ decide (0 ≤ z) = !allSg xs ∧ Below w.heap.size w w'
set_option maxHeartbeats 2000000 in
theorem sizeIdx_any {w : World} {a : Option Addr} (cap : Nat) {xs : List Int} (h : ISmp w.heap.size w a xs) (hm : xs.length ≤ 4611686018427387904) :
    Calls Try.prog 124 #[.slice a xs.length cap, .func (.func 105) #[] #[]] w (IxPost xs w) := by
  have eg : ∀ args w, (callFunc 105 args).run Try.prog w = .ok (.enter 105 args) w := enters_of Try.func105 (by kernel_rfl) rfl
  have hmi : (xs.length : Int) ≤ 4611686018427387904 := by omega
  go_enter Try.func124, Try.ntmps124
  go_wp2
  go_loop [8] (fun s => ∃ k : Nat, s = .int .i64 k ∧ k ≤ xs.length ∧ Hid (∀ j (hj : j < xs.length), j < k → sg xs[j] = true)) (fun s => xs.length - (intOf s).toNat)
  case atStart => exact ⟨0, rfl, by omega, (fun m h k => by omega)⟩
  case round =>
    obtain ⟨k, rfl, hk, HA⟩ := hrel
    by_cases hlt : k < xs.length
    · have hlt' : (k : Int) < (xs.length : Int) := by omega
      obtain ⟨b, off, rfl, hb, c0⟩ := h k hlt
      obtain ⟨x, hx⟩ : ∃ x, xs[k] = x := ⟨_, rfl⟩
      rw [hx] at c0
      have HX : Hid (xs[k] = x) := hx
      clear hx
      cases hs : sg x
      · have HB : Hid (allSg xs = false) := sg_bad hlt (by rw [HX.out]; exact hs)
        have hd := notSg_is hs w
        go_wp2_with (first | (go_at_call 105; refine hd.mono ?_; rintro e w3 ⟨rfl, rfl⟩))
        go_ret
        exact ⟨k, rfl, by rw [HB.out]; exact decide_eq_true (by omega), Below.refl _ _⟩
      · have hd := notSg_is hs w
        go_wp2_with (first | (go_at_call 105; refine hd.mono ?_; rintro e w3 ⟨rfl, rfl⟩))
        go_round
        case rel =>
          refine ⟨k + 1, by go_num, by omega, fun m hm hk => ?_⟩
          by_cases e : m = k
          · subst e
            rw [HX.out]
            exact hs
          · exact HA.out m hm (by omega)
        case measure => first | (simp [intOf]; done) | (simp [intOf]; omega)
    · have e : k = xs.length := by omega
      subst e
      have HB : Hid (allSg xs = true) := sg_all (fun j hj => HA.out j hj hj)
      go_wp2
      go_ret
      exact ⟨-1, rfl, by rw [HB.out]; rfl, Below.refl _ _⟩
theorem sizeHas_any {w : World} {a : Option Addr} (cap : Nat) {xs : List Int} (h : ISmp w.heap.size w a xs) (hm : xs.length ≤ 4611686018427387904) :
    Calls Try.prog 104 #[.slice a xs.length cap, .func (.func 105) #[] #[]] w fun e w' => e = .returned (.bool (!allSg xs)) ∧ Below w.heap.size w w' := by
  go_enter Try.func104, Try.ntmps104
  go_wp2_with (first | (go_at_call 124; refine (sizeIdx_any cap h hm).mono ?_; rintro e w2 ⟨z, rfl, hzz, hb2⟩; have HZ : Hid (decide (0 ≤ z) = !allSg xs) := hzz; clear hzz))
  go_ret
  exact ⟨retU HZ.out, hb2⟩
theorem areSizes_any {w : World} {a : Option Addr} (cap : Nat) {xs : List Int} (h : ISmp w.heap.size w a xs) (hm : xs.length ≤ 4611686018427387904) :
    Calls Try.prog 73 #[.slice a xs.length cap] w fun e w' => e = .returned (.bool (allSg xs)) ∧ Below w.heap.size w w' := by
  go_enter Try.func73, Try.ntmps73
  go_wp2_with (first | (go_at_call 104; refine (sizeHas_any cap h hm).mono ?_; rintro e w2 ⟨rfl, hb2⟩))
  go_ret
  exact ⟨retU (by simp), hb2⟩
/-- The most that a flow's deficit may be. -/
def mostOf (at' : Int) (fresh : Bool) (k : Nat) (f : F8) : Int := if f.2.2.length = 0 then 0 else if (k : Int) = at' ∧ fresh = false then f.1 + 1500 else 1499
theorem at_most {at' : Int} {fresh : Bool} {k : Nat} {q d : Int} {xs : List Int} (h1 : inB 1500 q 1000000000 = true) : atB at' fresh k (q, d, xs) = ((inB 0 d (mostOf at' fresh k (q, d, xs)) && decide (xs.length ≤ 100)) && allSg xs) := by
  have hq := in_num h1
  rw [Bool.eq_iff_iff]
  unfold atB flowB mostOf inB
  simp only [Bool.and_eq_true, Bool.or_eq_true, decide_eq_true_eq, Bool.not_eq_true', decide_eq_false_iff_not]
  constructor
  · rintro ⟨⟨⟨⟨⟨_, a2⟩, a3⟩, a4⟩, a5⟩, a6⟩
    refine ⟨⟨⟨a2.1, ?_⟩, a3⟩, a5⟩
    split
    · rename_i e
      rcases a4 with a4 | a4
      · exact absurd e a4
      · omega
    · split
      · exact a2.2
      · rename_i e
        rcases a6 with a6 | a6
        · exact absurd a6 e
        · omega
  · rintro ⟨⟨⟨a1, a2⟩, a3⟩, a5⟩
    split at a2
    · rename_i e
      exact ⟨⟨⟨⟨⟨hq, a1, by omega⟩, a3⟩, .inr (by omega)⟩, a5⟩, .inr (by omega)⟩
    · rename_i e
      split at a2
      · rename_i e2
        exact ⟨⟨⟨⟨⟨hq, a1, a2⟩, a3⟩, .inl e⟩, a5⟩, .inl e2⟩
      · exact ⟨⟨⟨⟨⟨hq, a1, by omega⟩, a3⟩, .inl e⟩, a5⟩, .inr (by omega)⟩
theorem at_no {at' : Int} {fresh : Bool} {k : Nat} {q d : Int} {xs : List Int} (h1 : inB 1500 q 1000000000 = false) : atB at' fresh k (q, d, xs) = false := by
  unfold atB flowB
  simp only [h1, Bool.false_and]
end Go.Proofs.Ytibfclfidaofkas
