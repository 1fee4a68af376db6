/- Timers: pairs of numbers in memory; the laws' copies, comparisons and marks of them. -/
import Derived.Test.YtcmgaaopkhjelakToSmp
import Derived.Test.YtcmgaaopkhjelakEqSmp
import Derived.Test.YtcmgaaopkhjelakMarkSmp
import Derived.Test.YtcmgaaopkhjelakFlat
namespace Go.Proofs.Ytcmgaaopkhjelak
open Go.ChangeShapes Go.WideShapes Go.ChangeAt Go.RowKit
set_option maxRecDepth 100000
set_option linter.unusedVariables false

theorem info_tim : (Try.prog.info? 50).map (fun i => (i.zero, i.size, i.bytes)) = some (some (.agg #[.int .i64 0, .int .i64 0]), 2, 16) := by kernel_rfl
theorem toTimer_any (p q : Int) (w : World) :
    Calls Try.prog 44 #[.agg #[.int .i64 p, .int .i64 q]] w fun e w' => e = .returned (.agg #[.int .i64 p, .int .i64 q]) ∧ Below w.heap.size w w' := by
  go_enter Try.func44, Try.ntmps44
  go_wp2
  refine bodyPost_ret (results_one rfl _ _ _ [.int .i64 p, .int .i64 q] rfl (cells_two (by go_simp) (by go_simp)) Try.underlying50 rfl (by kernel_rfl)) rfl ?_
  exact ⟨rfl, by go_grown⟩
/-- Block g has room for n pairs; the first k are those of xs. -/
theorem toTimerS_any {w : World} {a : Option Addr} (cap : Nat) {xs : List (Int × Int)} (h : Smp w.heap.size w a xs) (hn : xs.length ≤ 1048576) :
    Calls Try.prog 30 #[.slice a xs.length cap] w fun e w' => ∃ g, e = .returned (.slice (some ⟨g, 0, none⟩) xs.length xs.length) ∧ w.heap.size ≤ g ∧ g < w'.heap.size ∧ Fill w' g xs.length xs xs.length ∧ Below w.heap.size w w' := by
  obtain ⟨i0, hi, hz0, hz1, hz2⟩ := info_parts info_tim
  go_enter Try.func30, Try.ntmps30
  go_wp2_with (first
    | (at_make; refine wpList_make_full _ rfl _ _ 27 rfl w.heap.size 50 i0 _ 2 Try.underlying27 hi hz0 hz1 _ _ _ _ xs.length rfl rfl rfl rfl (by rw [hz2]; omega) (by unfold maxLen; omega) (Nat.le_refl _) ?_; intro w1 own1 gr1))
  have hb1 : Below w.heap.size w w1 := (Below.refl _ _).grown gr1 (Nat.le_refl _) (fun k hk => by cases hk)
  have hg1 : w.heap.size < w1.heap.size := (own1.lt _ rfl).2
  have f1 : Fill w1 w.heap.size xs.length xs 0 := ⟨fun j hj => ⟨⟨0, by
    have hc := own1.cellAt j hj
    rw [hc]
    exact made_pair _ j hj⟩, own1.frozenAt j⟩, fun i hi hk => by omega⟩
  go_loopw [4] (fun i wr => ∃ k : Nat, i = .int .i64 k ∧ k ≤ xs.length ∧ Fill wr w.heap.size xs.length xs k ∧ w.heap.size < wr.heap.size ∧ Below w.heap.size w wr) (fun i _ => xs.length - (intOf i).toNat)
  case atStart => exact ⟨0, rfl, by omega, f1, hg1, hb1⟩
  case round =>
    obtain ⟨k, rfl, hk, f, hg, hb⟩ := hrel
    by_cases hlt : k < xs.length
    · obtain ⟨b, off, rfl, hbl, c0, c1⟩ := h.at hb k hlt
      have hlt' : (k : Int) < (xs.length : Int) := by omega
      generalize hp : xs[k].1 = p at c0
      generalize hq : xs[k].2 = q at c1
      go_wp2_with (first
        | (go_at_call 44; refine (toTimer_any _ _ _).mono ?_; rintro e w2 ⟨rfl, hb2⟩; have f2 := f.mono hb2 hg; obtain ⟨⟨z0, e0⟩, u0⟩ := f2.any (k * 2) (by omega); obtain ⟨⟨z1, e1⟩, u1⟩ := f2.any (k * 2 + 1) (by omega)))
      subst hp
      subst hq
      have hB := hb.size
      exact ⟨⟨k + 1, by go_num, by omega, f2.put hlt (Nat.le_refl _), by have := hb2.size; simp; omega, ((hb.trans (hb2.mono hB)).setCell (by exact Nat.le_refl _) _).setCell (by exact Nat.le_refl _) _⟩, by simp [intOf]; omega⟩
    · have e : k = xs.length := by omega
      subst e
      go_wp2
      go_ret
      exact ⟨_, rfl, Nat.le_refl _, hg, f, hb⟩
theorem eqTimer_any (x y : Int × Int) (w : World) :
    Calls Try.prog 50 #[.agg #[.int .i64 x.1, .int .i64 x.2], .agg #[.int .i64 y.1, .int .i64 y.2]] w fun e w' => e = .returned (.bool (decide (x = y))) ∧ Below w.heap.size w w' := by
  obtain ⟨p, q⟩ := x
  obtain ⟨r, s⟩ := y
  by_cases h1 : p = r
  · by_cases h2 : q = s
    · subst h1; subst h2
      rw [decide_eq_true rfl]
      go_enter Try.func50, Try.ntmps50
      go_wp2
      go_ret
      exact ⟨rfl, by go_grown⟩
    · rw [decide_eq_false (by simp [h2])]
      go_enter Try.func50, Try.ntmps50
      go_wp2
      go_ret
      exact ⟨rfl, by go_grown⟩
  · rw [decide_eq_false (by simp [h1])]
    go_enter Try.func50, Try.ntmps50
    go_wp2
    go_ret
    exact ⟨rfl, by go_grown⟩
theorem eqTimerS_any {w : World} {a b : Option Addr} (cap cap' : Nat) {xs ys : List (Int × Int)} (ha : Smp w.heap.size w a xs) (hb : Smp w.heap.size w b ys) (hn : xs.length ≤ 4611686018427387904) :
    Calls Try.prog 38 #[.slice a xs.length cap, .slice b ys.length cap'] w fun e w' => e = .returned (.bool (decide (xs = ys))) ∧ Below w.heap.size w w' := by
  by_cases hl : xs.length = ys.length
  · rw [hl]
    have HL : Hid (xs.length = ys.length) := hl
    clear hl
    go_enter Try.func38, Try.ntmps38
    go_wp2
    go_loopw [5] (fun i wr => ∃ k : Nat, i = .int .i64 k ∧ k ≤ ys.length ∧ xs.take k = ys.take k ∧ Below w.heap.size w wr) (fun i _ => ys.length - (intOf i).toNat)
    case atStart => exact ⟨0, rfl, by omega, by simp, by go_grown⟩
    case round =>
      obtain ⟨k, rfl, hk, ht, hbw⟩ := hrel
      by_cases hlt2 : k < ys.length
      · have hlt : k < xs.length := by have := HL.out; omega
        obtain ⟨b1, o1, rfl, hb1, c0, c1⟩ := ha.at hbw k hlt
        obtain ⟨b2, o2, rfl, hb2, d0, d1⟩ := hb.at hbw k hlt2
        have hlt' : (k : Int) < (ys.length : Int) := by omega
        have hnn := hn
        have hly := HL.out
        rw [hly] at hnn
        clear hly
        obtain ⟨d, hd⟩ : ∃ d, decide (xs[k] = ys[k]) = d := ⟨_, rfl⟩
        have HD : Hid (decide (xs[k] = ys[k]) = d) := hd
        clear hd
        cases d
        rotate_left
        · skip
          have hk0 : (0 : Int) ≤ (k : Int) := by omega
          have hw1 : b1 < wr.drew.heap.size := Nat.lt_of_lt_of_le hb1 hbw.size
          have hw2 : b2 < wr.drew.heap.size := Nat.lt_of_lt_of_le hb2 hbw.size
          go_wp2
          go_region_held3 (fun w' => w'.cell? ⟨b1, o1 + k * 2, none⟩ = some (.int .i64 xs[k].1) ∧ w'.cell? ⟨b1, o1 + k * 2 + 1, none⟩ = some (.int .i64 xs[k].2) ∧ w'.cell? ⟨b2, o2 + k * 2, none⟩ = some (.int .i64 ys[k].1) ∧ w'.cell? ⟨b2, o2 + k * 2 + 1, none⟩ = some (.int .i64 ys[k].2)) (go_keep)
            (first | (go_at_call 50; refine (eqTimer_any xs[k] ys[k] wr.drew).mono ?_; rintro e w2 ⟨rfl, hb3⟩; rw [HD.out]; have q0 := (below_cells hb3 _ _ hw1).trans c0; have q1 := (below_cells hb3 _ _ hw1).trans c1; have q2 := (below_cells hb3 _ _ hw2).trans d0; have q3 := (below_cells hb3 _ _ hw2).trans d1; have hbx : Below w.heap.size w w2 := hbw.drew.trans (hb3.mono hbw.size)))
          go_wp2
          have hx := of_decide_eq_true HD.out
          have ht' : xs.take (k + 1) = ys.take (k + 1) := by
            rw [List.take_succ_eq_append_getElem hlt, List.take_succ_eq_append_getElem hlt2, ht, hx]
          go_roundw
          case rel => exact ⟨k + 1, by go_num, by omega, ht', hbx⟩
          case measure => first | (simp [intOf]; done) | (simp [intOf]; omega)
        · skip
          have hk0 : (0 : Int) ≤ (k : Int) := by omega
          have hw1 : b1 < wr.drew.heap.size := Nat.lt_of_lt_of_le hb1 hbw.size
          have hw2 : b2 < wr.drew.heap.size := Nat.lt_of_lt_of_le hb2 hbw.size
          go_wp2
          go_region_held3 (fun w' => w'.cell? ⟨b1, o1 + k * 2, none⟩ = some (.int .i64 xs[k].1) ∧ w'.cell? ⟨b1, o1 + k * 2 + 1, none⟩ = some (.int .i64 xs[k].2) ∧ w'.cell? ⟨b2, o2 + k * 2, none⟩ = some (.int .i64 ys[k].1) ∧ w'.cell? ⟨b2, o2 + k * 2 + 1, none⟩ = some (.int .i64 ys[k].2)) (go_keep)
            (first | (go_at_call 50; refine (eqTimer_any xs[k] ys[k] wr.drew).mono ?_; rintro e w2 ⟨rfl, hb3⟩; rw [HD.out]; have q0 := (below_cells hb3 _ _ hw1).trans c0; have q1 := (below_cells hb3 _ _ hw1).trans c1; have q2 := (below_cells hb3 _ _ hw2).trans d0; have q3 := (below_cells hb3 _ _ hw2).trans d1; have hbx : Below w.heap.size w w2 := hbw.drew.trans (hb3.mono hbw.size)))
          go_wp2
          go_ret
          exact ⟨ret_b (decide_eq_false (fun e => of_decide_eq_false HD.out (by subst e; rfl))).symm, hbx⟩
      · have e : k = ys.length := by omega
        subst e
        have hxy : xs = ys := by
          rw [List.take_length, ← HL.out, List.take_length] at ht; exact ht
        go_wp2
        go_ret
        exact ⟨ret_b (decide_eq_true hxy).symm, hbw⟩
  · have hlb : ((xs.length : Int) == (ys.length : Int)) = false := by simp; omega
    rw [decide_eq_false (fun e => hl (by rw [e]))]
    go_enter Try.func38, Try.ntmps38
    go_wp2
    go_ret
    exact ⟨rfl, by go_grown⟩
set_option maxHeartbeats 1000000 in
theorem markTimerS_any {w : World} {g n m : Nat} (cap : Nat) {xs : List (Int × Int)} (k : Int) (f : Fill w g n xs m) (hg : g < w.heap.size) (hn : n ≤ 1048576) (k0 : 0 ≤ k) (k1 : k ≤ 1000000000) :
    Calls Try.prog 41 #[.slice (some ⟨g, 0, none⟩) n cap, .int .i64 k] w fun e w' => e = .returned (.int .i64 (k + 2 * n)) ∧ Fill w' g n (marks k n) n ∧ Only g w w' := by
  go_enter Try.func41, Try.ntmps41
  go_wp2
  go_loopw [1, 5] (fun s i wr => ∃ j : Nat, i = .int .i64 j ∧ j ≤ n ∧ s = .int .i64 (k + 2 * (j : Int)) ∧ Fill wr g n (marks k n) j ∧ Only g w wr) (fun _ i _ => n - (intOf i).toNat)
  case atStart => exact ⟨0, rfl, by omega, by simp, f.again _, Only.refl _ _⟩
  case round =>
    obtain ⟨j, rfl, hj, rfl, fr, hO⟩ := hrel
    by_cases hlt : j < n
    · obtain ⟨⟨z0, e0⟩, u0⟩ := fr.any (j * 2) (by omega)
      obtain ⟨⟨z1, e1⟩, u1⟩ := fr.any (j * 2 + 1) (by omega)
      have hlt' : (j : Int) < (n : Int) := by omega
      have hp := fr.put (k := j) (by rw [marks_length]; exact hlt) (by rw [marks_length]; omega)
      rw [marks_get] at hp
      have HP : Hid (Fill ((wr.setCell ⟨g, j * 2, none⟩ (.int .i64 (k + 2 * (j : Int)))).setCell ⟨g, j * 2 + 1, none⟩ (.int .i64 (k + 2 * (j : Int) + 1))) g n (marks k n) (j + 1)) := hp
      clear hp
      go_wp2
      exact ⟨⟨j + 1, by go_num, by omega, ret_v (by omega), HP.out, (hO.setCell rfl _).setCell rfl _⟩, by simp [intOf]; omega⟩
    · have e : j = n := by omega
      subst e
      go_wp2
      go_ret
      exact ⟨rfl, fr, hO⟩
set_option maxHeartbeats 1000000 in
theorem heldTimerS_any {w : World} {g n : Nat} (cap : Nat) (k : Int) (f : Fill w g n (marks k n) n) (hn : n ≤ 1048576) (k0 : 0 ≤ k) (k1 : k ≤ 1000000000) :
    Calls Try.prog 42 #[.slice (some ⟨g, 0, none⟩) n cap, .int .i64 k] w fun e w' => e = .returned (.int .i64 (k + 2 * n)) ∧ w' = w := by
  go_enter Try.func42, Try.ntmps42
  go_wp2
  go_loop [1, 5] (fun s i => ∃ j : Nat, i = .int .i64 j ∧ j ≤ n ∧ s = .int .i64 (k + 2 * (j : Int))) (fun _ i => n - (intOf i).toNat)
  case atStart => exact ⟨0, rfl, by omega, by simp⟩
  case round =>
    obtain ⟨j, rfl, hj, rfl⟩ := hrel
    by_cases hlt : j < n
    · obtain ⟨c0, c1⟩ := f.got j (by rw [marks_length]; exact hlt) hlt
      rw [marks_get] at c0 c1
      simp only at c0 c1
      have hlt' : (j : Int) < (n : Int) := by omega
      go_wp2
      go_round
      case rel => exact ⟨j + 1, by go_num, by omega, ret_v (by omega)⟩
      case measure => first | (simp [intOf]; done) | (simp [intOf]; omega)
    · have e : j = n := by omega
      subst e
      go_wp2
      go_ret
      exact ⟨rfl, rfl⟩
theorem own_tim {w : World} {base : Nat} {v : Value} {xs : List (Int × Int)} (h : w.ownsRow base 50 2 v xs.length (flat xs)) (hn : v ≠ .slice none 0 0) :
    ∃ g cap, v = .slice (some ⟨g, 0, none⟩) xs.length cap ∧ base ≤ g ∧ g < w.heap.size ∧ Fill w g xs.length xs xs.length ∧ xs.length ≤ cap := by
  rcases h.2 with ⟨e, _⟩ | ⟨g, cap, cur, rfl, hb, hg, hnc, _⟩
  · exact absurd e hn
  · refine ⟨g, cap, rfl, hb, (h.lt g rfl).2, ⟨fun j hj => ⟨?_, h.frozenAt j⟩, fun i hi _ => ?_⟩, hnc⟩
    · have hc := h.cellAt j hj
      obtain ⟨u, hu⟩ : ∃ u, (flat xs)[j]? = some u := ⟨_, List.getElem?_eq_getElem (by rw [flat_length]; exact hj)⟩
      obtain ⟨z, rfl⟩ := flat_mem (List.mem_of_getElem? hu)
      exact ⟨z, hc.trans hu⟩
    · obtain ⟨h0, h1⟩ := flat_get xs i hi
      exact ⟨(h.cellAt _ (by omega)).trans h0, (h.cellAt _ (by omega)).trans h1⟩
end Go.Proofs.Ytcmgaaopkhjelak
