/- Lemmas on the way, of several texts: Cls, ClsHeld, Bkt, SpecLeaf. -/
import Derived.Test.YtkohlmloobojfaaGreatGrpAK
import Derived.Deep.RegionHeld3
import Derived.Test.YtkohlmloobojfaaGreatGrpAC
namespace Go.Proofs.YtkohlmloobojfaaGreat
open Go.ChangeShapes Go.WideShapes Go.ChangeAt Go.RowKit
set_option maxRecDepth 100000
set_option linter.unusedVariables false
set_option linter.unusedSimpArgs false
theorem info_class : (Tryz.prog.info? 109).map (fun i => (i.zero, i.size, i.bytes)) = some (some (.agg #[.int .i64 0, .int .i64 0, .int .i64 0, .int .i64 0]), 4, 32) := by kernel_rfl
theorem cellsQ_class : Tryz.prog.cellsOf 154 = 4 := by kernel_rfl
theorem cellsQ_i_class : Tryz.prog.cellsOf 2 = 1 := by kernel_rfl
theorem szClassS_gen (a : Option Addr) (n cap : Nat) (L : Int) (w : World) (hn : (n : Int) ≤ 9223372036854775807) (h0 : 0 ≤ L) (hL : L ≤ 1048576) :
    Calls Tryz.prog 62 #[.slice a n cap, .int .i64 L] w fun e w' => e = .returned (.int .i64 (if (n : Int) ≤ L then L - (n : Int) else -1)) ∧ w' = w := by
  by_cases h : (n : Int) ≤ L
  · rw [if_pos h]
    have h1 : (0 : Int) ≤ L - (n : Int) := by omega
    go_enter Tryz.func62, Tryz.ntmps62
    go_wp2
    go_ret
    exact ⟨rfl, rfl⟩
  · rw [if_neg h]
    have h1 : L - (n : Int) < 0 := by omega
    go_enter Tryz.func62, Tryz.ntmps62
    go_wp2
    go_ret
    exact ⟨rfl, rfl⟩
theorem toClass_q (p q r s : Int) (w : World) :
    Calls Tryz.prog 132 #[.agg #[.int .i64 p, .int .i64 q, .int .i64 r, .int .i64 s]] w fun e w' => e = .returned (.agg #[.int .i64 p, .int .i64 q, .int .i64 r, .int .i64 s]) ∧ Below w.heap.size w w' := by
  go_enter Tryz.func132, Tryz.ntmps132
  go_wp2
  refine bodyPost_ret (results_one rfl _ _ _ [.int .i64 p, .int .i64 q, .int .i64 r, .int .i64 s] rfl (cells_four (by go_simp) (by go_simp) (by go_simp) (by go_simp)) Tryz.underlying109 rfl (by kernel_rfl)) rfl ?_
  exact ⟨rfl, by go_grown⟩
set_option maxHeartbeats 1000000 in
theorem toClassS_any {w : World} {a : Option Addr} (cap : Nat) {xs : List Q4} (h : Quad w.heap.size w a xs) (hn : xs.length ≤ 1048576) :
    Calls Tryz.prog 72 #[.slice a xs.length cap] w fun e w' => ∃ g, e = .returned (.slice (some ⟨g, 0, none⟩) xs.length xs.length) ∧ w.heap.size ≤ g ∧ g < w'.heap.size ∧ QFill w' g xs.length xs xs.length ∧ Below w.heap.size w w' := by
  obtain ⟨i0, hi, hz0, hz1, hz2⟩ := info_parts info_class
  go_enter Tryz.func72, Tryz.ntmps72
  go_wp2_with (first
    | (at_make; refine wpList_make_full _ rfl _ _ 31 rfl w.heap.size 109 i0 _ 4 Tryz.underlying31 hi hz0 hz1 _ _ _ _ xs.length rfl rfl rfl rfl (by rw [hz2]; omega) (by unfold maxLen; omega) (Nat.le_refl _) ?_; intro w1 own1 gr1))
  have hb1 : Below w.heap.size w w1 := (Below.refl _ _).grown gr1 (Nat.le_refl _) (fun k hk => by cases hk)
  have hg1 : w.heap.size < w1.heap.size := (own1.lt _ rfl).2
  have f1 : QFill w1 w.heap.size xs.length xs 0 := ⟨fun j hj => ⟨⟨0, by
    have hc := own1.cellAt j hj
    rw [hc]
    exact made_quad _ j hj⟩, own1.frozenAt j⟩, fun i hi hk => by omega⟩
  go_loopw [4] (fun i wr => ∃ k : Nat, i = .int .i64 k ∧ k ≤ xs.length ∧ QFill wr w.heap.size xs.length xs k ∧ w.heap.size < wr.heap.size ∧ Below w.heap.size w wr) (fun i _ => xs.length - (intOf i).toNat)
  case atStart => exact ⟨0, rfl, by omega, f1, hg1, hb1⟩
  case round =>
    obtain ⟨k, rfl, hk, f, hg, hb⟩ := hrel
    by_cases hlt : k < xs.length
    · obtain ⟨b, off, rfl, hbl, c0, c1, c2, c3⟩ := h.at hb k hlt
      have hlt' : (k : Int) < (xs.length : Int) := by omega
      obtain ⟨p, q, r, s, hx⟩ : ∃ p q r s, xs[k] = (p, q, r, s) := ⟨_, _, _, _, rfl⟩
      rw [hx] at c0 c1 c2 c3
      simp only at c0 c1 c2 c3
      have HX : Hid (xs[k] = (p, q, r, s)) := hx
      clear hx
      go_wp2_with (first
        | (go_at_call 132; refine (toClass_q _ _ _ _ _).mono ?_; rintro e w2 ⟨rfl, hb2⟩; have f2 := f.mono hb2 hg; obtain ⟨⟨z0, e0⟩, u0⟩ := f2.any (k * 4) (by omega); obtain ⟨⟨z1, e1⟩, u1⟩ := f2.any (k * 4 + 1) (by omega); obtain ⟨⟨z2, e2⟩, u2⟩ := f2.any (k * 4 + 2) (by omega); obtain ⟨⟨z3, e3⟩, u3⟩ := f2.any (k * 4 + 3) (by omega)))
      have hB := hb.size
      have hp := f2.put hlt (Nat.le_refl _)
      rw [HX.out] at hp
      have hb3 := putQ_below (x := (p, q, r, s)) (o := k * 4) (hb.trans (hb2.mono hB)) (Nat.le_refl w.heap.size)
      exact ⟨⟨k + 1, by go_num, by omega, hp, by have := hb2.size; simp; omega, hb3⟩, by simp [intOf]; omega⟩
    · have e : k = xs.length := by omega
      subst e
      go_wp2
      go_ret
      exact ⟨_, rfl, Nat.le_refl _, hg, f, hb⟩
theorem eqClass_q (x y : Q4) (w : World) : Calls Tryz.prog 151 #[aggQ x, aggQ y] w fun e w' => e = .returned (.bool (decide (x = y))) ∧ Below w.heap.size w w' := by
  obtain ⟨p, q, r, s⟩ := x
  obtain ⟨p', q', r', s'⟩ := y
  unfold aggQ
  simp only
  by_cases h1 : p = p'
  · by_cases h2 : q = q'
    · by_cases h3 : r = r'
      · by_cases h4 : s = s'
        · subst h1; subst h2; subst h3; subst h4
          rw [decide_eq_true rfl]
          go_enter Tryz.func151, Tryz.ntmps151
          go_wp2
          go_ret
          exact ⟨rfl, by go_grown⟩
        · rw [decide_eq_false (by simp [h4])]
          go_enter Tryz.func151, Tryz.ntmps151
          go_wp2
          go_ret
          exact ⟨rfl, by go_grown⟩
      · rw [decide_eq_false (by simp [h3])]
        go_enter Tryz.func151, Tryz.ntmps151
        go_wp2
        go_ret
        exact ⟨rfl, by go_grown⟩
    · rw [decide_eq_false (by simp [h2])]
      go_enter Tryz.func151, Tryz.ntmps151
      go_wp2
      go_ret
      exact ⟨rfl, by go_grown⟩
  · rw [decide_eq_false (by simp [h1])]
    go_enter Tryz.func151, Tryz.ntmps151
    go_wp2
    go_ret
    exact ⟨rfl, by go_grown⟩
set_option maxHeartbeats 1000000 in
theorem eqClassS_any {w : World} {a b : Option Addr} (cap cap' : Nat) {xs ys : List Q4} (ha : Quad w.heap.size w a xs) (hb : Quad w.heap.size w b ys) (hn : xs.length ≤ 4611686018427387904) :
    Calls Tryz.prog 104 #[.slice a xs.length cap, .slice b ys.length cap'] w fun e w' => e = .returned (.bool (decide (xs = ys))) ∧ Below w.heap.size w w' := by
  by_cases hl : xs.length = ys.length
  · rw [hl]
    have HL : Hid (xs.length = ys.length) := hl
    clear hl
    go_enter Tryz.func104, Tryz.ntmps104
    go_wp2
    go_loopw [5] (fun i wr => ∃ k : Nat, i = .int .i64 k ∧ k ≤ ys.length ∧ xs.take k = ys.take k ∧ Below w.heap.size w wr) (fun i _ => ys.length - (intOf i).toNat)
    case atStart => exact ⟨0, rfl, by omega, by simp, by go_grown⟩
    case round =>
      obtain ⟨k, rfl, hk, ht, hbw⟩ := hrel
      by_cases hlt2 : k < ys.length
      · have hlt : k < xs.length := by have := HL.out; omega
        obtain ⟨b1, o1, rfl, hb1, c0, c1, c2, c3⟩ := ha.at hbw k hlt
        obtain ⟨b2, o2, rfl, hb2, d0, d1, d2, d3⟩ := hb.at hbw k hlt2
        have hlt' : (k : Int) < (ys.length : Int) := by omega
        have hnn := hn
        have hly := HL.out
        rw [hly] at hnn
        clear hly
        obtain ⟨d, hd⟩ : ∃ d, decide (xs[k] = ys[k]) = d := ⟨_, rfl⟩
        have HD : Hid (decide (xs[k] = ys[k]) = d) := hd
        clear hd
        cases d
        rotate_left
        · have hk0 : (0 : Int) ≤ (k : Int) := by omega
          have hw1 : b1 < wr.drew.heap.size := Nat.lt_of_lt_of_le hb1 hbw.size
          have hw2 : b2 < wr.drew.heap.size := Nat.lt_of_lt_of_le hb2 hbw.size
          go_wp2
          go_region_held3 (fun w' => w'.cell? ⟨b1, o1 + k * 4, none⟩ = some (.int .i64 xs[k].1) ∧ w'.cell? ⟨b1, o1 + k * 4 + 1, none⟩ = some (.int .i64 xs[k].2.1) ∧ w'.cell? ⟨b1, o1 + k * 4 + 2, none⟩ = some (.int .i64 xs[k].2.2.1) ∧ w'.cell? ⟨b1, o1 + k * 4 + 3, none⟩ = some (.int .i64 xs[k].2.2.2) ∧ w'.cell? ⟨b2, o2 + k * 4, none⟩ = some (.int .i64 ys[k].1) ∧ w'.cell? ⟨b2, o2 + k * 4 + 1, none⟩ = some (.int .i64 ys[k].2.1) ∧ w'.cell? ⟨b2, o2 + k * 4 + 2, none⟩ = some (.int .i64 ys[k].2.2.1) ∧ w'.cell? ⟨b2, o2 + k * 4 + 3, none⟩ = some (.int .i64 ys[k].2.2.2)) (go_keep)
            (first | (go_at_call 151; refine (eqClass_q xs[k] ys[k] wr.drew).mono ?_; rintro e w2 ⟨rfl, hb3⟩; rw [HD.out]; have q0 := (below_cells hb3 _ _ hw1).trans c0; have q1 := (below_cells hb3 _ _ hw1).trans c1; have q2 := (below_cells hb3 _ _ hw1).trans c2; have q3 := (below_cells hb3 _ _ hw1).trans c3; have q4 := (below_cells hb3 _ _ hw2).trans d0; have q5 := (below_cells hb3 _ _ hw2).trans d1; have q6 := (below_cells hb3 _ _ hw2).trans d2; have q7 := (below_cells hb3 _ _ hw2).trans d3; have hbx : Below w.heap.size w w2 := hbw.drew.trans (hb3.mono hbw.size)))
          go_wp2
          have hx := of_decide_eq_true HD.out
          have ht' : xs.take (k + 1) = ys.take (k + 1) := by
            rw [List.take_succ_eq_append_getElem hlt, List.take_succ_eq_append_getElem hlt2, ht, hx]
          go_roundw
          case rel => exact ⟨k + 1, by go_num, by omega, ht', hbx⟩
          case measure => first | (simp [intOf]; done) | (simp [intOf]; omega)
        · have hk0 : (0 : Int) ≤ (k : Int) := by omega
          have hw1 : b1 < wr.drew.heap.size := Nat.lt_of_lt_of_le hb1 hbw.size
          have hw2 : b2 < wr.drew.heap.size := Nat.lt_of_lt_of_le hb2 hbw.size
          go_wp2
          go_region_held3 (fun w' => w'.cell? ⟨b1, o1 + k * 4, none⟩ = some (.int .i64 xs[k].1) ∧ w'.cell? ⟨b1, o1 + k * 4 + 1, none⟩ = some (.int .i64 xs[k].2.1) ∧ w'.cell? ⟨b1, o1 + k * 4 + 2, none⟩ = some (.int .i64 xs[k].2.2.1) ∧ w'.cell? ⟨b1, o1 + k * 4 + 3, none⟩ = some (.int .i64 xs[k].2.2.2) ∧ w'.cell? ⟨b2, o2 + k * 4, none⟩ = some (.int .i64 ys[k].1) ∧ w'.cell? ⟨b2, o2 + k * 4 + 1, none⟩ = some (.int .i64 ys[k].2.1) ∧ w'.cell? ⟨b2, o2 + k * 4 + 2, none⟩ = some (.int .i64 ys[k].2.2.1) ∧ w'.cell? ⟨b2, o2 + k * 4 + 3, none⟩ = some (.int .i64 ys[k].2.2.2)) (go_keep)
            (first | (go_at_call 151; refine (eqClass_q xs[k] ys[k] wr.drew).mono ?_; rintro e w2 ⟨rfl, hb3⟩; rw [HD.out]; have q0 := (below_cells hb3 _ _ hw1).trans c0; have q1 := (below_cells hb3 _ _ hw1).trans c1; have q2 := (below_cells hb3 _ _ hw1).trans c2; have q3 := (below_cells hb3 _ _ hw1).trans c3; have q4 := (below_cells hb3 _ _ hw2).trans d0; have q5 := (below_cells hb3 _ _ hw2).trans d1; have q6 := (below_cells hb3 _ _ hw2).trans d2; have q7 := (below_cells hb3 _ _ hw2).trans d3; have hbx : Below w.heap.size w w2 := hbw.drew.trans (hb3.mono hbw.size)))
          go_wp2
          go_ret
          exact ⟨retQ (decide_eq_false (fun e => of_decide_eq_false HD.out (by subst e; rfl))).symm, hbx⟩
      · have e : k = ys.length := by omega
        subst e
        have hxy : xs = ys := by
          rw [List.take_length, ← HL.out, List.take_length] at ht; exact ht
        go_wp2
        go_ret
        exact ⟨retQ (decide_eq_true hxy).symm, hbw⟩
  · have hlb : ((xs.length : Int) == (ys.length : Int)) = false := by simp; omega
    rw [decide_eq_false (fun e => hl (by rw [e]))]
    go_enter Tryz.func104, Tryz.ntmps104
    go_wp2
    go_ret
    exact ⟨rfl, by go_grown⟩
set_option maxHeartbeats 2000000 in
theorem markClassS_any {w : World} {g n m : Nat} (cap : Nat) {xs : List Q4} (k : Int) (f : QFill w g n xs m) (hg : g < w.heap.size) (hn : n ≤ 1048576) (k0 : 0 ≤ k) (k1 : k ≤ 1000000000) :
    Calls Tryz.prog 108 #[.slice (some ⟨g, 0, none⟩) n cap, .int .i64 k] w fun e w' => e = .returned (.int .i64 (k + 4 * n)) ∧ QFill w' g n (marks4 k n) n ∧ Only g w w' := by
  go_enter Tryz.func108, Tryz.ntmps108
  go_wp2
  go_loopw [1, 5] (fun s i wr => ∃ j : Nat, i = .int .i64 j ∧ j ≤ n ∧ s = .int .i64 (k + 4 * (j : Int)) ∧ QFill wr g n (marks4 k n) j ∧ Only g w wr) (fun _ i _ => n - (intOf i).toNat)
  case atStart => exact ⟨0, rfl, by omega, by simp, f.again _, Only.refl _ _⟩
  case round =>
    obtain ⟨j, rfl, hj, rfl, fr, hO⟩ := hrel
    by_cases hlt : j < n
    · obtain ⟨⟨z0, e0⟩, u0⟩ := fr.any (j * 4) (by omega)
      obtain ⟨⟨z1, e1⟩, u1⟩ := fr.any (j * 4 + 1) (by omega)
      obtain ⟨⟨z2, e2⟩, u2⟩ := fr.any (j * 4 + 2) (by omega)
      obtain ⟨⟨z3, e3⟩, u3⟩ := fr.any (j * 4 + 3) (by omega)
      have hlt' : (j : Int) < (n : Int) := by omega
      have hp := fr.put (k := j) (by rw [marks4_length]; exact hlt) (by rw [marks4_length]; omega)
      rw [marks4_get] at hp
      have HP : Hid (QFill ((((wr.setCell ⟨g, j * 4, none⟩ (.int .i64 (k + 4 * (j : Int)))).setCell ⟨g, j * 4 + 1, none⟩ (.int .i64 (k + 4 * (j : Int) + 1))).setCell ⟨g, j * 4 + 2, none⟩ (.int .i64 (k + 4 * (j : Int) + 1 + 1))).setCell ⟨g, j * 4 + 3, none⟩ (.int .i64 (k + 4 * (j : Int) + 1 + 1 + 1))) g n (marks4 k n) (j + 1)) := by
        have a2 : k + 4 * (j : Int) + 1 + 1 = k + 4 * (j : Int) + 2 := by omega
        have a3 : k + 4 * (j : Int) + 2 + 1 = k + 4 * (j : Int) + 3 := by omega
        rw [a2, a3]
        exact hp
      clear hp
      go_wp2
      exact ⟨⟨j + 1, by go_num, by omega, (by rw [show k + 4 * ((j + 1 : Nat) : Int) = k + 4 * (j : Int) + 1 + 1 + 1 + 1 by omega]), HP.out, (((hO.setCell rfl _).setCell rfl _).setCell rfl _).setCell rfl _⟩, by simp [intOf]; omega⟩
    · have e : j = n := by omega
      subst e
      go_wp2
      go_ret
      exact ⟨rfl, fr, hO⟩
set_option maxHeartbeats 2000000 in
theorem heldClassS_any {w : World} {g n : Nat} (cap : Nat) (k : Int) (f : QFill w g n (marks4 k n) n) (hn : n ≤ 1048576) (k0 : 0 ≤ k) (k1 : k ≤ 1000000000) :
    Calls Tryz.prog 111 #[.slice (some ⟨g, 0, none⟩) n cap, .int .i64 k] w fun e w' => e = .returned (.int .i64 (k + 4 * n)) ∧ w' = w := by
  go_enter Tryz.func111, Tryz.ntmps111
  go_wp2
  go_loop [1, 5] (fun s i => ∃ j : Nat, i = .int .i64 j ∧ j ≤ n ∧ s = .int .i64 (k + 4 * (j : Int))) (fun _ i => n - (intOf i).toNat)
  case atStart => exact ⟨0, rfl, by omega, by simp⟩
  case round =>
    obtain ⟨j, rfl, hj, rfl⟩ := hrel
    by_cases hlt : j < n
    · obtain ⟨c0, c1, c2, c3⟩ := f.got j (by rw [marks4_length]; exact hlt) hlt
      rw [marks4_get] at c0 c1 c2 c3
      simp only at c0 c1 c2 c3
      have hlt' : (j : Int) < (n : Int) := by omega
      obtain ⟨m, hm⟩ : ∃ m : Int, k + 4 * (j : Int) = m := ⟨_, rfl⟩
      have HM : Hid (k + 4 * (j : Int) = m) := hm
      have m0 : 0 ≤ m := by omega
      have m1 : m ≤ 2000000000 := by omega
      rw [hm] at c0 c1 c2 c3 ⊢
      rw [show m + 2 = m + 1 + 1 by omega] at c2
      rw [show m + 3 = m + 1 + 1 + 1 by omega] at c3
      clear hm
      go_wp2
      go_round
      case rel => exact ⟨j + 1, by go_num, by omega, by rw [show k + 4 * ((j + 1 : Nat) : Int) = m + 1 + 1 + 1 + 1 by have := HM.out; omega]⟩
      case measure => first | (simp [intOf]; done) | (simp [intOf]; omega)
    · have e : j = n := by omega
      subst e
      go_wp2
      go_ret
      exact ⟨rfl, rfl⟩
theorem info_bucket : (Tryz.prog.info? 105).map (fun i => (i.zero, i.size, i.bytes)) = some (some (.agg #[.int .i64 0, .int .i64 0, .int .i64 0, .int .i64 0]), 4, 32) := by kernel_rfl
theorem cellsQ_bucket : Tryz.prog.cellsOf 156 = 4 := by kernel_rfl
theorem cellsQ_i_bucket : Tryz.prog.cellsOf 2 = 1 := by kernel_rfl
theorem szBucketS_gen (a : Option Addr) (n cap : Nat) (L : Int) (w : World) (hn : (n : Int) ≤ 9223372036854775807) (h0 : 0 ≤ L) (hL : L ≤ 1048576) :
    Calls Tryz.prog 63 #[.slice a n cap, .int .i64 L] w fun e w' => e = .returned (.int .i64 (if (n : Int) ≤ L then L - (n : Int) else -1)) ∧ w' = w := by
  by_cases h : (n : Int) ≤ L
  · rw [if_pos h]
    have h1 : (0 : Int) ≤ L - (n : Int) := by omega
    go_enter Tryz.func63, Tryz.ntmps63
    go_wp2
    go_ret
    exact ⟨rfl, rfl⟩
  · rw [if_neg h]
    have h1 : L - (n : Int) < 0 := by omega
    go_enter Tryz.func63, Tryz.ntmps63
    go_wp2
    go_ret
    exact ⟨rfl, rfl⟩
theorem toBucket_q (p q r s : Int) (w : World) :
    Calls Tryz.prog 133 #[.agg #[.int .i64 p, .int .i64 q, .int .i64 r, .int .i64 s]] w fun e w' => e = .returned (.agg #[.int .i64 p, .int .i64 q, .int .i64 r, .int .i64 s]) ∧ Below w.heap.size w w' := by
  go_enter Tryz.func133, Tryz.ntmps133
  go_wp2
  refine bodyPost_ret (results_one rfl _ _ _ [.int .i64 p, .int .i64 q, .int .i64 r, .int .i64 s] rfl (cells_four (by go_simp) (by go_simp) (by go_simp) (by go_simp)) Tryz.underlying105 rfl (by kernel_rfl)) rfl ?_
  exact ⟨rfl, by go_grown⟩
set_option maxHeartbeats 1000000 in
theorem toBucketS_any {w : World} {a : Option Addr} (cap : Nat) {xs : List Q4} (h : Quad w.heap.size w a xs) (hn : xs.length ≤ 1048576) :
    Calls Tryz.prog 73 #[.slice a xs.length cap] w fun e w' => ∃ g, e = .returned (.slice (some ⟨g, 0, none⟩) xs.length xs.length) ∧ w.heap.size ≤ g ∧ g < w'.heap.size ∧ QFill w' g xs.length xs xs.length ∧ Below w.heap.size w w' := by
  obtain ⟨i0, hi, hz0, hz1, hz2⟩ := info_parts info_bucket
  go_enter Tryz.func73, Tryz.ntmps73
  go_wp2_with (first
    | (at_make; refine wpList_make_full _ rfl _ _ 32 rfl w.heap.size 105 i0 _ 4 Tryz.underlying32 hi hz0 hz1 _ _ _ _ xs.length rfl rfl rfl rfl (by rw [hz2]; omega) (by unfold maxLen; omega) (Nat.le_refl _) ?_; intro w1 own1 gr1))
  have hb1 : Below w.heap.size w w1 := (Below.refl _ _).grown gr1 (Nat.le_refl _) (fun k hk => by cases hk)
  have hg1 : w.heap.size < w1.heap.size := (own1.lt _ rfl).2
  have f1 : QFill w1 w.heap.size xs.length xs 0 := ⟨fun j hj => ⟨⟨0, by
    have hc := own1.cellAt j hj
    rw [hc]
    exact made_quad _ j hj⟩, own1.frozenAt j⟩, fun i hi hk => by omega⟩
  go_loopw [4] (fun i wr => ∃ k : Nat, i = .int .i64 k ∧ k ≤ xs.length ∧ QFill wr w.heap.size xs.length xs k ∧ w.heap.size < wr.heap.size ∧ Below w.heap.size w wr) (fun i _ => xs.length - (intOf i).toNat)
  case atStart => exact ⟨0, rfl, by omega, f1, hg1, hb1⟩
  case round =>
    obtain ⟨k, rfl, hk, f, hg, hb⟩ := hrel
    by_cases hlt : k < xs.length
    · obtain ⟨b, off, rfl, hbl, c0, c1, c2, c3⟩ := h.at hb k hlt
      have hlt' : (k : Int) < (xs.length : Int) := by omega
      obtain ⟨p, q, r, s, hx⟩ : ∃ p q r s, xs[k] = (p, q, r, s) := ⟨_, _, _, _, rfl⟩
      rw [hx] at c0 c1 c2 c3
      simp only at c0 c1 c2 c3
      have HX : Hid (xs[k] = (p, q, r, s)) := hx
      clear hx
      go_wp2_with (first
        | (go_at_call 133; refine (toBucket_q _ _ _ _ _).mono ?_; rintro e w2 ⟨rfl, hb2⟩; have f2 := f.mono hb2 hg; obtain ⟨⟨z0, e0⟩, u0⟩ := f2.any (k * 4) (by omega); obtain ⟨⟨z1, e1⟩, u1⟩ := f2.any (k * 4 + 1) (by omega); obtain ⟨⟨z2, e2⟩, u2⟩ := f2.any (k * 4 + 2) (by omega); obtain ⟨⟨z3, e3⟩, u3⟩ := f2.any (k * 4 + 3) (by omega)))
      have hB := hb.size
      have hp := f2.put hlt (Nat.le_refl _)
      rw [HX.out] at hp
      have hb3 := putQ_below (x := (p, q, r, s)) (o := k * 4) (hb.trans (hb2.mono hB)) (Nat.le_refl w.heap.size)
      exact ⟨⟨k + 1, by go_num, by omega, hp, by have := hb2.size; simp; omega, hb3⟩, by simp [intOf]; omega⟩
    · have e : k = xs.length := by omega
      subst e
      go_wp2
      go_ret
      exact ⟨_, rfl, Nat.le_refl _, hg, f, hb⟩
theorem eqBucket_q (x y : Q4) (w : World) : Calls Tryz.prog 152 #[aggQ x, aggQ y] w fun e w' => e = .returned (.bool (decide (x = y))) ∧ Below w.heap.size w w' := by
  obtain ⟨p, q, r, s⟩ := x
  obtain ⟨p', q', r', s'⟩ := y
  unfold aggQ
  simp only
  by_cases h1 : p = p'
  · by_cases h2 : q = q'
    · by_cases h3 : r = r'
      · by_cases h4 : s = s'
        · subst h1; subst h2; subst h3; subst h4
          rw [decide_eq_true rfl]
          go_enter Tryz.func152, Tryz.ntmps152
          go_wp2
          go_ret
          exact ⟨rfl, by go_grown⟩
        · rw [decide_eq_false (by simp [h4])]
          go_enter Tryz.func152, Tryz.ntmps152
          go_wp2
          go_ret
          exact ⟨rfl, by go_grown⟩
      · rw [decide_eq_false (by simp [h3])]
        go_enter Tryz.func152, Tryz.ntmps152
        go_wp2
        go_ret
        exact ⟨rfl, by go_grown⟩
    · rw [decide_eq_false (by simp [h2])]
      go_enter Tryz.func152, Tryz.ntmps152
      go_wp2
      go_ret
      exact ⟨rfl, by go_grown⟩
  · rw [decide_eq_false (by simp [h1])]
    go_enter Tryz.func152, Tryz.ntmps152
    go_wp2
    go_ret
    exact ⟨rfl, by go_grown⟩
set_option maxHeartbeats 1000000 in
theorem eqBucketS_any {w : World} {a b : Option Addr} (cap cap' : Nat) {xs ys : List Q4} (ha : Quad w.heap.size w a xs) (hb : Quad w.heap.size w b ys) (hn : xs.length ≤ 4611686018427387904) :
    Calls Tryz.prog 105 #[.slice a xs.length cap, .slice b ys.length cap'] w fun e w' => e = .returned (.bool (decide (xs = ys))) ∧ Below w.heap.size w w' := by
  by_cases hl : xs.length = ys.length
  · rw [hl]
    have HL : Hid (xs.length = ys.length) := hl
    clear hl
    go_enter Tryz.func105, Tryz.ntmps105
    go_wp2
    go_loopw [5] (fun i wr => ∃ k : Nat, i = .int .i64 k ∧ k ≤ ys.length ∧ xs.take k = ys.take k ∧ Below w.heap.size w wr) (fun i _ => ys.length - (intOf i).toNat)
    case atStart => exact ⟨0, rfl, by omega, by simp, by go_grown⟩
    case round =>
      obtain ⟨k, rfl, hk, ht, hbw⟩ := hrel
      by_cases hlt2 : k < ys.length
      · have hlt : k < xs.length := by have := HL.out; omega
        obtain ⟨b1, o1, rfl, hb1, c0, c1, c2, c3⟩ := ha.at hbw k hlt
        obtain ⟨b2, o2, rfl, hb2, d0, d1, d2, d3⟩ := hb.at hbw k hlt2
        have hlt' : (k : Int) < (ys.length : Int) := by omega
        have hnn := hn
        have hly := HL.out
        rw [hly] at hnn
        clear hly
        obtain ⟨d, hd⟩ : ∃ d, decide (xs[k] = ys[k]) = d := ⟨_, rfl⟩
        have HD : Hid (decide (xs[k] = ys[k]) = d) := hd
        clear hd
        cases d
        rotate_left
        · have hk0 : (0 : Int) ≤ (k : Int) := by omega
          have hw1 : b1 < wr.drew.heap.size := Nat.lt_of_lt_of_le hb1 hbw.size
          have hw2 : b2 < wr.drew.heap.size := Nat.lt_of_lt_of_le hb2 hbw.size
          go_wp2
          go_region_held3 (fun w' => w'.cell? ⟨b1, o1 + k * 4, none⟩ = some (.int .i64 xs[k].1) ∧ w'.cell? ⟨b1, o1 + k * 4 + 1, none⟩ = some (.int .i64 xs[k].2.1) ∧ w'.cell? ⟨b1, o1 + k * 4 + 2, none⟩ = some (.int .i64 xs[k].2.2.1) ∧ w'.cell? ⟨b1, o1 + k * 4 + 3, none⟩ = some (.int .i64 xs[k].2.2.2) ∧ w'.cell? ⟨b2, o2 + k * 4, none⟩ = some (.int .i64 ys[k].1) ∧ w'.cell? ⟨b2, o2 + k * 4 + 1, none⟩ = some (.int .i64 ys[k].2.1) ∧ w'.cell? ⟨b2, o2 + k * 4 + 2, none⟩ = some (.int .i64 ys[k].2.2.1) ∧ w'.cell? ⟨b2, o2 + k * 4 + 3, none⟩ = some (.int .i64 ys[k].2.2.2)) (go_keep)
            (first | (go_at_call 152; refine (eqBucket_q xs[k] ys[k] wr.drew).mono ?_; rintro e w2 ⟨rfl, hb3⟩; rw [HD.out]; have q0 := (below_cells hb3 _ _ hw1).trans c0; have q1 := (below_cells hb3 _ _ hw1).trans c1; have q2 := (below_cells hb3 _ _ hw1).trans c2; have q3 := (below_cells hb3 _ _ hw1).trans c3; have q4 := (below_cells hb3 _ _ hw2).trans d0; have q5 := (below_cells hb3 _ _ hw2).trans d1; have q6 := (below_cells hb3 _ _ hw2).trans d2; have q7 := (below_cells hb3 _ _ hw2).trans d3; have hbx : Below w.heap.size w w2 := hbw.drew.trans (hb3.mono hbw.size)))
          go_wp2
          have hx := of_decide_eq_true HD.out
          have ht' : xs.take (k + 1) = ys.take (k + 1) := by
            rw [List.take_succ_eq_append_getElem hlt, List.take_succ_eq_append_getElem hlt2, ht, hx]
          go_roundw
          case rel => exact ⟨k + 1, by go_num, by omega, ht', hbx⟩
          case measure => first | (simp [intOf]; done) | (simp [intOf]; omega)
        · have hk0 : (0 : Int) ≤ (k : Int) := by omega
          have hw1 : b1 < wr.drew.heap.size := Nat.lt_of_lt_of_le hb1 hbw.size
          have hw2 : b2 < wr.drew.heap.size := Nat.lt_of_lt_of_le hb2 hbw.size
          go_wp2
          go_region_held3 (fun w' => w'.cell? ⟨b1, o1 + k * 4, none⟩ = some (.int .i64 xs[k].1) ∧ w'.cell? ⟨b1, o1 + k * 4 + 1, none⟩ = some (.int .i64 xs[k].2.1) ∧ w'.cell? ⟨b1, o1 + k * 4 + 2, none⟩ = some (.int .i64 xs[k].2.2.1) ∧ w'.cell? ⟨b1, o1 + k * 4 + 3, none⟩ = some (.int .i64 xs[k].2.2.2) ∧ w'.cell? ⟨b2, o2 + k * 4, none⟩ = some (.int .i64 ys[k].1) ∧ w'.cell? ⟨b2, o2 + k * 4 + 1, none⟩ = some (.int .i64 ys[k].2.1) ∧ w'.cell? ⟨b2, o2 + k * 4 + 2, none⟩ = some (.int .i64 ys[k].2.2.1) ∧ w'.cell? ⟨b2, o2 + k * 4 + 3, none⟩ = some (.int .i64 ys[k].2.2.2)) (go_keep)
            (first | (go_at_call 152; refine (eqBucket_q xs[k] ys[k] wr.drew).mono ?_; rintro e w2 ⟨rfl, hb3⟩; rw [HD.out]; have q0 := (below_cells hb3 _ _ hw1).trans c0; have q1 := (below_cells hb3 _ _ hw1).trans c1; have q2 := (below_cells hb3 _ _ hw1).trans c2; have q3 := (below_cells hb3 _ _ hw1).trans c3; have q4 := (below_cells hb3 _ _ hw2).trans d0; have q5 := (below_cells hb3 _ _ hw2).trans d1; have q6 := (below_cells hb3 _ _ hw2).trans d2; have q7 := (below_cells hb3 _ _ hw2).trans d3; have hbx : Below w.heap.size w w2 := hbw.drew.trans (hb3.mono hbw.size)))
          go_wp2
          go_ret
          exact ⟨retQ (decide_eq_false (fun e => of_decide_eq_false HD.out (by subst e; rfl))).symm, hbx⟩
      · have e : k = ys.length := by omega
        subst e
        have hxy : xs = ys := by
          rw [List.take_length, ← HL.out, List.take_length] at ht; exact ht
        go_wp2
        go_ret
        exact ⟨retQ (decide_eq_true hxy).symm, hbw⟩
  · have hlb : ((xs.length : Int) == (ys.length : Int)) = false := by simp; omega
    rw [decide_eq_false (fun e => hl (by rw [e]))]
    go_enter Tryz.func105, Tryz.ntmps105
    go_wp2
    go_ret
    exact ⟨rfl, by go_grown⟩
set_option maxHeartbeats 2000000 in
theorem markBucketS_any {w : World} {g n m : Nat} (cap : Nat) {xs : List Q4} (k : Int) (f : QFill w g n xs m) (hg : g < w.heap.size) (hn : n ≤ 1048576) (k0 : 0 ≤ k) (k1 : k ≤ 1000000000) :
    Calls Tryz.prog 109 #[.slice (some ⟨g, 0, none⟩) n cap, .int .i64 k] w fun e w' => e = .returned (.int .i64 (k + 4 * n)) ∧ QFill w' g n (marks4 k n) n ∧ Only g w w' := by
  go_enter Tryz.func109, Tryz.ntmps109
  go_wp2
  go_loopw [1, 5] (fun s i wr => ∃ j : Nat, i = .int .i64 j ∧ j ≤ n ∧ s = .int .i64 (k + 4 * (j : Int)) ∧ QFill wr g n (marks4 k n) j ∧ Only g w wr) (fun _ i _ => n - (intOf i).toNat)
  case atStart => exact ⟨0, rfl, by omega, by simp, f.again _, Only.refl _ _⟩
  case round =>
    obtain ⟨j, rfl, hj, rfl, fr, hO⟩ := hrel
    by_cases hlt : j < n
    · obtain ⟨⟨z0, e0⟩, u0⟩ := fr.any (j * 4) (by omega)
      obtain ⟨⟨z1, e1⟩, u1⟩ := fr.any (j * 4 + 1) (by omega)
      obtain ⟨⟨z2, e2⟩, u2⟩ := fr.any (j * 4 + 2) (by omega)
      obtain ⟨⟨z3, e3⟩, u3⟩ := fr.any (j * 4 + 3) (by omega)
      have hlt' : (j : Int) < (n : Int) := by omega
      have hp := fr.put (k := j) (by rw [marks4_length]; exact hlt) (by rw [marks4_length]; omega)
      rw [marks4_get] at hp
      have HP : Hid (QFill ((((wr.setCell ⟨g, j * 4, none⟩ (.int .i64 (k + 4 * (j : Int)))).setCell ⟨g, j * 4 + 1, none⟩ (.int .i64 (k + 4 * (j : Int) + 1))).setCell ⟨g, j * 4 + 2, none⟩ (.int .i64 (k + 4 * (j : Int) + 1 + 1))).setCell ⟨g, j * 4 + 3, none⟩ (.int .i64 (k + 4 * (j : Int) + 1 + 1 + 1))) g n (marks4 k n) (j + 1)) := by
        have a2 : k + 4 * (j : Int) + 1 + 1 = k + 4 * (j : Int) + 2 := by omega
        have a3 : k + 4 * (j : Int) + 2 + 1 = k + 4 * (j : Int) + 3 := by omega
        rw [a2, a3]
        exact hp
      clear hp
      go_wp2
      exact ⟨⟨j + 1, by go_num, by omega, (by rw [show k + 4 * ((j + 1 : Nat) : Int) = k + 4 * (j : Int) + 1 + 1 + 1 + 1 by omega]), HP.out, (((hO.setCell rfl _).setCell rfl _).setCell rfl _).setCell rfl _⟩, by simp [intOf]; omega⟩
    · have e : j = n := by omega
      subst e
      go_wp2
      go_ret
      exact ⟨rfl, fr, hO⟩
set_option maxHeartbeats 2000000 in
theorem heldBucketS_any {w : World} {g n : Nat} (cap : Nat) (k : Int) (f : QFill w g n (marks4 k n) n) (hn : n ≤ 1048576) (k0 : 0 ≤ k) (k1 : k ≤ 1000000000) :
    Calls Tryz.prog 112 #[.slice (some ⟨g, 0, none⟩) n cap, .int .i64 k] w fun e w' => e = .returned (.int .i64 (k + 4 * n)) ∧ w' = w := by
  go_enter Tryz.func112, Tryz.ntmps112
  go_wp2
  go_loop [1, 5] (fun s i => ∃ j : Nat, i = .int .i64 j ∧ j ≤ n ∧ s = .int .i64 (k + 4 * (j : Int))) (fun _ i => n - (intOf i).toNat)
  case atStart => exact ⟨0, rfl, by omega, by simp⟩
  case round =>
    obtain ⟨j, rfl, hj, rfl⟩ := hrel
    by_cases hlt : j < n
    · obtain ⟨c0, c1, c2, c3⟩ := f.got j (by rw [marks4_length]; exact hlt) hlt
      rw [marks4_get] at c0 c1 c2 c3
      simp only at c0 c1 c2 c3
      have hlt' : (j : Int) < (n : Int) := by omega
      obtain ⟨m, hm⟩ : ∃ m : Int, k + 4 * (j : Int) = m := ⟨_, rfl⟩
      have HM : Hid (k + 4 * (j : Int) = m) := hm
      have m0 : 0 ≤ m := by omega
      have m1 : m ≤ 2000000000 := by omega
      rw [hm] at c0 c1 c2 c3 ⊢
      rw [show m + 2 = m + 1 + 1 by omega] at c2
      rw [show m + 3 = m + 1 + 1 + 1 by omega] at c3
      clear hm
      go_wp2
      go_round
      case rel => exact ⟨j + 1, by go_num, by omega, by rw [show k + 4 * ((j + 1 : Nat) : Int) = m + 1 + 1 + 1 + 1 by have := HM.out; omega]⟩
      case measure => first | (simp [intOf]; done) | (simp [intOf]; omega)
    · have e : j = n := by omega
      subst e
      go_wp2
      go_ret
      exact ⟨rfl, rfl⟩
/-- No class has i for its parent. -/
def leafB (ts : List Q4) (i : Int) : Bool := ts.all fun t => !decide (t.1 = i)
theorem leaf_no {ts : List Q4} {i : Int} {k : Nat} (hk : k < ts.length) (h : ts[k].1 = i) : leafB ts i = false := by
  unfold leafB
  rw [List.all_eq_false]
  exact ⟨ts[k], List.getElem_mem hk, by simp [h]⟩
theorem leaf_yes {ts : List Q4} {i : Int} (h : ∀ k (hk : k < ts.length), ts[k].1 ≠ i) : leafB ts i = true := by
  unfold leafB
  rw [List.all_eq_true]
  intro t ht
  obtain ⟨k, hk, rfl⟩ := List.mem_iff_getElem.1 ht
  simp [h k hk]
set_option maxHeartbeats 1000000 in
theorem specLeaf_any {w : World} {a : Option Addr} (cap : Nat) {ts : List Q4} (i : Int) (h : Quad w.heap.size w a ts) (hl : ts.length ≤ 1048576) :
    Calls Tryz.prog 27 #[.slice a ts.length cap, .int .i64 i] w fun e w' => e = .returned (.bool (leafB ts i)) ∧ w' = w := by
  have hl' : (ts.length : Int) ≤ 1048576 := by omega
  go_enter Tryz.func27, Tryz.ntmps27
  go_wp2
  go_loop [5] (fun s => ∃ k : Nat, s = .int .i64 k ∧ k ≤ ts.length ∧ Hid (∀ m (h : m < ts.length), m < k → ts[m].1 ≠ i)) (fun s => ts.length - (intOf s).toNat)
  case atStart => exact ⟨0, rfl, by omega, fun m h k => by omega⟩
  case round =>
    obtain ⟨k, rfl, hk, HA⟩ := hrel
    by_cases hlt : k < ts.length
    · obtain ⟨b, off, rfl, hb, c0, c1, c2, c3⟩ := h.at (Below.refl _ _) k hlt
      have hlt' : (k : Int) < (ts.length : Int) := by omega
      by_cases hp : ts[k].1 = i
      · have HP : Hid (leafB ts i = false) := leaf_no hlt hp
        rw [hp] at c0
        clear hp
        go_wp2
        go_ret
        exact ⟨retQ HP.out.symm, rfl⟩
      · obtain ⟨p, hx⟩ : ∃ p, ts[k].1 = p := ⟨_, rfl⟩
        have HX : Hid (ts[k].1 = p) := hx
        rw [hx] at c0 hp
        clear hx
        have hp' : (p == i) = false := by simp [hp]
        go_wp2
        go_round
        case rel =>
          refine ⟨k + 1, by go_num, by omega, fun m hm hk => ?_⟩
          by_cases e : m = k
          · subst e
            rw [HX.out]
            exact hp
          · exact HA.out m hm (by omega)
        case measure => first | (simp [intOf]; done) | (simp [intOf]; omega)
    · have e : k = ts.length := by omega
      subst e
      go_wp2
      go_ret
      exact ⟨retQ (leaf_yes (fun m hm => HA.out m hm hm)).symm, rfl⟩
end Go.Proofs.YtkohlmloobojfaaGreat
