/- The laws' comparisons of lists of samples. -/
import Derived.Test.YtoeiheccmpjclaqToSmp
import Derived.Deep.RegionHeld3
namespace Go.Proofs.Ytoeiheccmpjclaq
open Go.ChangeShapes Go.WideShapes Go.ChangeAt Go.RowKit
set_option maxRecDepth 100000
set_option linter.unusedVariables false

theorem eqSample_any (x y : Int × Int) (w : World) :
    Calls Try.prog 87 #[.agg #[.int .i64 x.1, .int .i64 x.2], .agg #[.int .i64 y.1, .int .i64 y.2]] w fun e w' => e = .returned (.bool (decide (x = y))) ∧ Below w.heap.size w w' := by
  obtain ⟨p, q⟩ := x
  obtain ⟨r, s⟩ := y
  by_cases h1 : p = r
  · by_cases h2 : q = s
    · subst h1; subst h2
      rw [decide_eq_true rfl]
      go_enter Try.func87, Try.ntmps87
      go_wp2
      go_ret
      exact ⟨rfl, by go_grown⟩
    · rw [decide_eq_false (by simp [h2])]
      go_enter Try.func87, Try.ntmps87
      go_wp2
      go_ret
      exact ⟨rfl, by go_grown⟩
  · rw [decide_eq_false (by simp [h1])]
    go_enter Try.func87, Try.ntmps87
    go_wp2
    go_ret
    exact ⟨rfl, by go_grown⟩
theorem ret_b {f g : Bool} (h : f = g) : Ending.returned (.bool f) = .returned (.bool g) := by rw [h]
theorem eqSampleS_any {w : World} {a b : Option Addr} (cap cap' : Nat) {xs ys : List (Int × Int)} (ha : Smp w.heap.size w a xs) (hb : Smp w.heap.size w b ys) (hn : xs.length ≤ 4611686018427387904) :
    Calls Try.prog 60 #[.slice a xs.length cap, .slice b ys.length cap'] w fun e w' => e = .returned (.bool (decide (xs = ys))) ∧ Below w.heap.size w w' := by
  by_cases hl : xs.length = ys.length
  · rw [hl]
    have HL : Hid (xs.length = ys.length) := hl
    clear hl
    go_enter Try.func60, Try.ntmps60
    go_wp2
    go_loopw [5] (fun i wr => ∃ k : Nat, i = .int .i64 k ∧ k ≤ ys.length ∧ xs.take k = ys.take k ∧ Below w.heap.size w wr) (fun i _ => ys.length - (intOf i).toNat)
    case atStart => exact ⟨0, rfl, by omega, by simp, by go_grown⟩
    case round =>
      obtain ⟨k, rfl, hk, ht, hbw⟩ := hrel
      by_cases hlt2 : k < ys.length
      · have hlt : k < xs.length := by have := HL.out; omega
        obtain ⟨b1, o1, rfl, hb1, c0, c1⟩ := ha.at hbw k hlt
        obtain ⟨b2, o2, rfl, hb2, d0, d1⟩ := hb.at hbw k hlt2
        have hlt' : (k : Int) < (ys.length : Int) := by omega
        have hnn := hn
        have hly := HL.out
        rw [hly] at hnn
        clear hly
        obtain ⟨d, hd⟩ : ∃ d, decide (xs[k] = ys[k]) = d := ⟨_, rfl⟩
        have HD : Hid (decide (xs[k] = ys[k]) = d) := hd
        clear hd
        cases d
        rotate_left
        · skip
          have hk0 : (0 : Int) ≤ (k : Int) := by omega
          have hw1 : b1 < wr.drew.heap.size := Nat.lt_of_lt_of_le hb1 hbw.size
          have hw2 : b2 < wr.drew.heap.size := Nat.lt_of_lt_of_le hb2 hbw.size
          go_wp2
          go_region_held3 (fun w' => w'.cell? ⟨b1, o1 + k * 2, none⟩ = some (.int .i64 xs[k].1) ∧ w'.cell? ⟨b1, o1 + k * 2 + 1, none⟩ = some (.int .i64 xs[k].2) ∧ w'.cell? ⟨b2, o2 + k * 2, none⟩ = some (.int .i64 ys[k].1) ∧ w'.cell? ⟨b2, o2 + k * 2 + 1, none⟩ = some (.int .i64 ys[k].2)) (go_keep)
            (first | (go_at_call 87; refine (eqSample_any xs[k] ys[k] wr.drew).mono ?_; rintro e w2 ⟨rfl, hb3⟩; rw [HD.out]; have q0 := (below_cells hb3 _ _ hw1).trans c0; have q1 := (below_cells hb3 _ _ hw1).trans c1; have q2 := (below_cells hb3 _ _ hw2).trans d0; have q3 := (below_cells hb3 _ _ hw2).trans d1; have hbx : Below w.heap.size w w2 := hbw.drew.trans (hb3.mono hbw.size)))
          go_wp2
          have hx := of_decide_eq_true HD.out
          have ht' : xs.take (k + 1) = ys.take (k + 1) := by
            rw [List.take_succ_eq_append_getElem hlt, List.take_succ_eq_append_getElem hlt2, ht, hx]
          go_roundw
          case rel => exact ⟨k + 1, by go_num, by omega, ht', hbx⟩
          case measure => first | (simp [intOf]; done) | (simp [intOf]; omega)
        · skip
          have hk0 : (0 : Int) ≤ (k : Int) := by omega
          have hw1 : b1 < wr.drew.heap.size := Nat.lt_of_lt_of_le hb1 hbw.size
          have hw2 : b2 < wr.drew.heap.size := Nat.lt_of_lt_of_le hb2 hbw.size
          go_wp2
          go_region_held3 (fun w' => w'.cell? ⟨b1, o1 + k * 2, none⟩ = some (.int .i64 xs[k].1) ∧ w'.cell? ⟨b1, o1 + k * 2 + 1, none⟩ = some (.int .i64 xs[k].2) ∧ w'.cell? ⟨b2, o2 + k * 2, none⟩ = some (.int .i64 ys[k].1) ∧ w'.cell? ⟨b2, o2 + k * 2 + 1, none⟩ = some (.int .i64 ys[k].2)) (go_keep)
            (first | (go_at_call 87; refine (eqSample_any xs[k] ys[k] wr.drew).mono ?_; rintro e w2 ⟨rfl, hb3⟩; rw [HD.out]; have q0 := (below_cells hb3 _ _ hw1).trans c0; have q1 := (below_cells hb3 _ _ hw1).trans c1; have q2 := (below_cells hb3 _ _ hw2).trans d0; have q3 := (below_cells hb3 _ _ hw2).trans d1; have hbx : Below w.heap.size w w2 := hbw.drew.trans (hb3.mono hbw.size)))
          go_wp2
          go_ret
          exact ⟨ret_b (decide_eq_false (fun e => of_decide_eq_false HD.out (by subst e; rfl))).symm, hbx⟩
      · have e : k = ys.length := by omega
        subst e
        have hxy : xs = ys := by
          rw [List.take_length, ← HL.out, List.take_length] at ht; exact ht
        go_wp2
        go_ret
        exact ⟨ret_b (decide_eq_true hxy).symm, hbw⟩
  · have hlb : ((xs.length : Int) == (ys.length : Int)) = false := by simp; omega
    rw [decide_eq_false (fun e => hl (by rw [e]))]
    go_enter Try.func60, Try.ntmps60
    go_wp2
    go_ret
    exact ⟨rfl, by go_grown⟩
theorem eqFilter_any {w : World} {a b : Option Addr} (cap cap' : Nat) {xs ys : List (Int × Int)} (ha : Smp w.heap.size w a xs) (hb : Smp w.heap.size w b ys) (hn : xs.length ≤ 4611686018427387904) :
    Calls Try.prog 31 #[.agg #[.slice a xs.length cap], .agg #[.slice b ys.length cap']] w fun e w' => e = .returned (.bool (decide (xs = ys))) ∧ Below w.heap.size w w' := by
  obtain ⟨d, hd⟩ : ∃ d, decide (xs = ys) = d := ⟨_, rfl⟩
  have HD : Hid (decide (xs = ys) = d) := hd
  rw [hd]
  clear hd
  cases d
  · go_enter Try.func31, Try.ntmps31
    go_wp2_with (first
      | (go_at_call 60; refine (eqSampleS_any cap cap' ((ha.mono (by go_grown)).up (by simp; omega)) ((hb.mono (by go_grown)).up (by simp; omega)) hn).mono ?_; rintro e w2 ⟨rfl, hb2⟩; rw [HD.out]))
    go_ret
    exact ⟨rfl, (by go_grown : Below w.heap.size w _).trans (hb2.mono (by simp; omega))⟩
  · go_enter Try.func31, Try.ntmps31
    go_wp2_with (first
      | (go_at_call 60; refine (eqSampleS_any cap cap' ((ha.mono (by go_grown)).up (by simp; omega)) ((hb.mono (by go_grown)).up (by simp; omega)) hn).mono ?_; rintro e w2 ⟨rfl, hb2⟩; rw [HD.out]))
    go_ret
    exact ⟨rfl, (by go_grown : Below w.heap.size w _).trans (hb2.mono (by simp; omega))⟩
/-- The laws' bound on what came in. -/
theorem szFilter_any (a : Option Addr) (n cap : Nat) (w : World) (hn : (n : Int) ≤ 9223372036854775807) :
    Calls Try.prog 34 #[.agg #[.slice a n cap], .int .i64 1048576] w fun e w' => e = .returned (.int .i64 (if n ≤ 1048576 then 1048576 - (n : Int) else -1)) ∧ Below w.heap.size w w' := by
  by_cases h : n ≤ 1048576
  · rw [if_pos h]
    have h1 : (0 : Int) ≤ 1048576 - (n : Int) := by omega
    go_enter Try.func34, Try.ntmps34
    go_wp2
    go_ret
    exact ⟨rfl, by go_grown⟩
  · rw [if_neg h]
    have h1 : (1048576 : Int) - (n : Int) < 0 := by omega
    go_enter Try.func34, Try.ntmps34
    go_wp2
    go_ret
    exact ⟨rfl, by go_grown⟩
end Go.Proofs.Ytoeiheccmpjclaq
