/- The laws' comparisons of Conns that are the same. -/
import Derived.Test.YtibfclfidaofkasGrpW
import Derived.Test.YtibfclfidaofkasGrpX
import Derived.Test.YtibfclfidaofkasGrpV
namespace Go.Proofs.Ytibfclfidaofkas
open Go.ChangeShapes Go.WideShapes Go.ChangeAt Go.RowKit
set_option maxRecDepth 100000
set_option linter.unusedVariables false
set_option linter.unusedSimpArgs false

set_option maxHeartbeats 4000000 in
theorem eqConn_same {w : World} {a b : Option Addr} (cap cap' : Nat) (c : Kn) (ha : ISmp w.heap.size w a c.xs) (hb : ISmp w.heap.size w b c.xs) (hn : c.xs.length ≤ 4611686018427387904) :
    Calls Try.prog 80 #[.agg #[.int .i64 c.id, .int .i64 c.lf, .int .i64 c.pl, .int .i64 c.k, .int .i64 c.wn, .int .i64 c.th, .int .i64 c.fl, .int .i64 c.ac, .int .i64 c.la, .int .i64 c.og, .int .i64 c.st, .int .i64 c.fr, .bool c.sl, .slice a c.xs.length cap], .agg #[.int .i64 c.id, .int .i64 c.lf, .int .i64 c.pl, .int .i64 c.k, .int .i64 c.wn, .int .i64 c.th, .int .i64 c.fl, .int .i64 c.ac, .int .i64 c.la, .int .i64 c.og, .int .i64 c.st, .int .i64 c.fr, .bool c.sl, .slice b c.xs.length cap']] w fun e w' => e = .returned (.bool true) ∧ Below w.heap.size w w' := by
  have nb : Below w.heap.size w ((w.alloc (.cells #[.int .i64 c.id, .int .i64 c.lf, .int .i64 c.pl, .int .i64 c.k, .int .i64 c.wn, .int .i64 c.th, .int .i64 c.fl, .int .i64 c.ac, .int .i64 c.la, .int .i64 c.og, .int .i64 c.st, .int .i64 c.fr, .bool c.sl, .slice a c.xs.length cap] 64)).alloc (.cells #[.int .i64 c.id, .int .i64 c.lf, .int .i64 c.pl, .int .i64 c.k, .int .i64 c.wn, .int .i64 c.th, .int .i64 c.fl, .int .i64 c.ac, .int .i64 c.la, .int .i64 c.og, .int .i64 c.st, .int .i64 c.fr, .bool c.sl, .slice b c.xs.length cap'] 64)) := by go_grown
  have L0 : Lay ((w.alloc (.cells #[.int .i64 c.id, .int .i64 c.lf, .int .i64 c.pl, .int .i64 c.k, .int .i64 c.wn, .int .i64 c.th, .int .i64 c.fl, .int .i64 c.ac, .int .i64 c.la, .int .i64 c.og, .int .i64 c.st, .int .i64 c.fr, .bool c.sl, .slice a c.xs.length cap] 64)).alloc (.cells #[.int .i64 c.id, .int .i64 c.lf, .int .i64 c.pl, .int .i64 c.k, .int .i64 c.wn, .int .i64 c.th, .int .i64 c.fl, .int .i64 c.ac, .int .i64 c.la, .int .i64 c.og, .int .i64 c.st, .int .i64 c.fr, .bool c.sl, .slice b c.xs.length cap'] 64)) w.heap.size [.int .i64 c.id, .int .i64 c.lf, .int .i64 c.pl, .int .i64 c.k, .int .i64 c.wn, .int .i64 c.th, .int .i64 c.fl, .int .i64 c.ac, .int .i64 c.la, .int .i64 c.og, .int .i64 c.st, .int .i64 c.fr, .bool c.sl, .slice a c.xs.length cap] := (lay_new [.int .i64 c.id, .int .i64 c.lf, .int .i64 c.pl, .int .i64 c.k, .int .i64 c.wn, .int .i64 c.th, .int .i64 c.fl, .int .i64 c.ac, .int .i64 c.la, .int .i64 c.og, .int .i64 c.st, .int .i64 c.fr, .bool c.sl, .slice a c.xs.length cap] _ rfl).alloc _ _
  have L1 : Lay ((w.alloc (.cells #[.int .i64 c.id, .int .i64 c.lf, .int .i64 c.pl, .int .i64 c.k, .int .i64 c.wn, .int .i64 c.th, .int .i64 c.fl, .int .i64 c.ac, .int .i64 c.la, .int .i64 c.og, .int .i64 c.st, .int .i64 c.fr, .bool c.sl, .slice a c.xs.length cap] 64)).alloc (.cells #[.int .i64 c.id, .int .i64 c.lf, .int .i64 c.pl, .int .i64 c.k, .int .i64 c.wn, .int .i64 c.th, .int .i64 c.fl, .int .i64 c.ac, .int .i64 c.la, .int .i64 c.og, .int .i64 c.st, .int .i64 c.fr, .bool c.sl, .slice b c.xs.length cap'] 64)) (w.heap.size + 1) [.int .i64 c.id, .int .i64 c.lf, .int .i64 c.pl, .int .i64 c.k, .int .i64 c.wn, .int .i64 c.th, .int .i64 c.fl, .int .i64 c.ac, .int .i64 c.la, .int .i64 c.og, .int .i64 c.st, .int .i64 c.fr, .bool c.sl, .slice b c.xs.length cap'] := lay_new [.int .i64 c.id, .int .i64 c.lf, .int .i64 c.pl, .int .i64 c.k, .int .i64 c.wn, .int .i64 c.th, .int .i64 c.fl, .int .i64 c.ac, .int .i64 c.la, .int .i64 c.og, .int .i64 c.st, .int .i64 c.fr, .bool c.sl, .slice b c.xs.length cap'] _ (by simp)
  go_enter Try.func80, Try.ntmps80
  go_wp2_with (first
    | (go_at_call 112; refine (eqCc_same _ _ _ _ _ _ _ _ _ _ _).mono ?_; rintro e w2 ⟨rfl, hb2⟩; have s0 : w2.cell? ⟨w.heap.size, 13, none⟩ = some (.slice a c.xs.length cap) := (L0.next hb2).cell 13 _ rfl; have s1 : w2.cell? ⟨w.heap.size + 1, 13, none⟩ = some (.slice b c.xs.length cap') := (L1.next hb2).cell 13 _ rfl; have hbx := below_two nb hb2)
    | (go_at_call 111; refine (eqInts_any cap cap' (ha.here hbx) (hb.here hbx) hn).mono ?_; rintro e w3 ⟨rfl, hb3⟩; rw [decide_eq_true rfl]))
  go_ret
  exact ⟨rfl, below_two hbx hb3⟩
set_option maxHeartbeats 4000000 in
theorem eqConnS_same {w : World} {a b : Option Addr} (cap cap' : Nat) {ks : List Kn} (ha : Kls w.heap.size w a ks) (hb : Kls w.heap.size w b ks) (hn : ks.length ≤ 4611686018427387904) (hm : ∀ c ∈ ks, c.xs.length ≤ 4611686018427387904) :
    Calls Try.prog 39 #[.slice a ks.length cap, .slice b ks.length cap'] w fun e w' => e = .returned (.bool true) ∧ Below w.heap.size w w' := by
  go_enter Try.func39, Try.ntmps39
  go_wp2
  go_loopw [5] (fun i wr => ∃ k : Nat, i = .int .i64 k ∧ k ≤ ks.length ∧ Below w.heap.size w wr) (fun i _ => ks.length - (intOf i).toNat)
  case atStart => exact ⟨0, rfl, by omega, by go_grown⟩
  case round =>
    obtain ⟨k, rfl, hk, hbw⟩ := hrel
    by_cases hlt : k < ks.length
    · obtain ⟨b1, o1, s1, sc1, rfl, hb1, c0, c13, m1⟩ := ha.at hbw k hlt
      obtain ⟨b2, o2, s2, sc2, rfl, hb2, d0, d13, m2⟩ := hb.at hbw k hlt
      have hlt' : (k : Int) < (ks.length : Int) := by omega
      have hp := hm _ (List.getElem_mem hlt)
      obtain ⟨c, hpp⟩ : ∃ c, ks[k] = c := ⟨_, rfl⟩
      rw [hpp] at c0 c13 m1 d0 d13 m2 hp
      clear hpp
      have p0 : wr.cell? ⟨b1, o1 + k * 14, none⟩ = some (.int .i64 c.id) := c0 0 _ rfl
      have p1 : wr.cell? ⟨b1, o1 + k * 14 + 1, none⟩ = some (.int .i64 c.lf) := c0 1 _ rfl
      have p2 : wr.cell? ⟨b1, o1 + k * 14 + 2, none⟩ = some (.int .i64 c.pl) := c0 2 _ rfl
      have p3 : wr.cell? ⟨b1, o1 + k * 14 + 3, none⟩ = some (.int .i64 c.k) := c0 3 _ rfl
      have p4 : wr.cell? ⟨b1, o1 + k * 14 + 4, none⟩ = some (.int .i64 c.wn) := c0 4 _ rfl
      have p5 : wr.cell? ⟨b1, o1 + k * 14 + 5, none⟩ = some (.int .i64 c.th) := c0 5 _ rfl
      have p6 : wr.cell? ⟨b1, o1 + k * 14 + 6, none⟩ = some (.int .i64 c.fl) := c0 6 _ rfl
      have p7 : wr.cell? ⟨b1, o1 + k * 14 + 7, none⟩ = some (.int .i64 c.ac) := c0 7 _ rfl
      have p8 : wr.cell? ⟨b1, o1 + k * 14 + 8, none⟩ = some (.int .i64 c.la) := c0 8 _ rfl
      have p9 : wr.cell? ⟨b1, o1 + k * 14 + 9, none⟩ = some (.int .i64 c.og) := c0 9 _ rfl
      have p10 : wr.cell? ⟨b1, o1 + k * 14 + 10, none⟩ = some (.int .i64 c.st) := c0 10 _ rfl
      have p11 : wr.cell? ⟨b1, o1 + k * 14 + 11, none⟩ = some (.int .i64 c.fr) := c0 11 _ rfl
      have p12 : wr.cell? ⟨b1, o1 + k * 14 + 12, none⟩ = some (.bool c.sl) := c0 12 _ rfl
      have q0 : wr.cell? ⟨b2, o2 + k * 14, none⟩ = some (.int .i64 c.id) := d0 0 _ rfl
      have q1 : wr.cell? ⟨b2, o2 + k * 14 + 1, none⟩ = some (.int .i64 c.lf) := d0 1 _ rfl
      have q2 : wr.cell? ⟨b2, o2 + k * 14 + 2, none⟩ = some (.int .i64 c.pl) := d0 2 _ rfl
      have q3 : wr.cell? ⟨b2, o2 + k * 14 + 3, none⟩ = some (.int .i64 c.k) := d0 3 _ rfl
      have q4 : wr.cell? ⟨b2, o2 + k * 14 + 4, none⟩ = some (.int .i64 c.wn) := d0 4 _ rfl
      have q5 : wr.cell? ⟨b2, o2 + k * 14 + 5, none⟩ = some (.int .i64 c.th) := d0 5 _ rfl
      have q6 : wr.cell? ⟨b2, o2 + k * 14 + 6, none⟩ = some (.int .i64 c.fl) := d0 6 _ rfl
      have q7 : wr.cell? ⟨b2, o2 + k * 14 + 7, none⟩ = some (.int .i64 c.ac) := d0 7 _ rfl
      have q8 : wr.cell? ⟨b2, o2 + k * 14 + 8, none⟩ = some (.int .i64 c.la) := d0 8 _ rfl
      have q9 : wr.cell? ⟨b2, o2 + k * 14 + 9, none⟩ = some (.int .i64 c.og) := d0 9 _ rfl
      have q10 : wr.cell? ⟨b2, o2 + k * 14 + 10, none⟩ = some (.int .i64 c.st) := d0 10 _ rfl
      have q11 : wr.cell? ⟨b2, o2 + k * 14 + 11, none⟩ = some (.int .i64 c.fr) := d0 11 _ rfl
      have q12 : wr.cell? ⟨b2, o2 + k * 14 + 12, none⟩ = some (.bool c.sl) := d0 12 _ rfl
      clear c0 d0
      have HS1 : Hid (ISmp w.heap.size wr.drew s1 c.xs) := m1.mono (Below.refl _ _).drew
      have HS2 : Hid (ISmp w.heap.size wr.drew s2 c.xs) := m2.mono (Below.refl _ _).drew
      clear m1 m2
      have hk0 : (0 : Int) ≤ (k : Int) := by omega
      have hw1 : b1 < wr.drew.heap.size := Nat.lt_of_lt_of_le hb1 hbw.size
      have hw2 : b2 < wr.drew.heap.size := Nat.lt_of_lt_of_le hb2 hbw.size
      go_wp2
      go_region_held3 (fun w' => w'.cell? ⟨b1, o1 + k * 14, none⟩ = some (.int .i64 c.id) ∧ w'.cell? ⟨b1, o1 + k * 14 + 1, none⟩ = some (.int .i64 c.lf) ∧ w'.cell? ⟨b1, o1 + k * 14 + 2, none⟩ = some (.int .i64 c.pl) ∧ w'.cell? ⟨b1, o1 + k * 14 + 3, none⟩ = some (.int .i64 c.k) ∧ w'.cell? ⟨b1, o1 + k * 14 + 4, none⟩ = some (.int .i64 c.wn) ∧ w'.cell? ⟨b1, o1 + k * 14 + 5, none⟩ = some (.int .i64 c.th) ∧ w'.cell? ⟨b1, o1 + k * 14 + 6, none⟩ = some (.int .i64 c.fl) ∧ w'.cell? ⟨b1, o1 + k * 14 + 7, none⟩ = some (.int .i64 c.ac) ∧ w'.cell? ⟨b1, o1 + k * 14 + 8, none⟩ = some (.int .i64 c.la) ∧ w'.cell? ⟨b1, o1 + k * 14 + 9, none⟩ = some (.int .i64 c.og) ∧ w'.cell? ⟨b1, o1 + k * 14 + 10, none⟩ = some (.int .i64 c.st) ∧ w'.cell? ⟨b1, o1 + k * 14 + 11, none⟩ = some (.int .i64 c.fr) ∧ w'.cell? ⟨b1, o1 + k * 14 + 12, none⟩ = some (.bool c.sl) ∧ w'.cell? ⟨b1, o1 + k * 14 + 13, none⟩ = some (.slice s1 c.xs.length sc1) ∧ w'.cell? ⟨b2, o2 + k * 14, none⟩ = some (.int .i64 c.id) ∧ w'.cell? ⟨b2, o2 + k * 14 + 1, none⟩ = some (.int .i64 c.lf) ∧ w'.cell? ⟨b2, o2 + k * 14 + 2, none⟩ = some (.int .i64 c.pl) ∧ w'.cell? ⟨b2, o2 + k * 14 + 3, none⟩ = some (.int .i64 c.k) ∧ w'.cell? ⟨b2, o2 + k * 14 + 4, none⟩ = some (.int .i64 c.wn) ∧ w'.cell? ⟨b2, o2 + k * 14 + 5, none⟩ = some (.int .i64 c.th) ∧ w'.cell? ⟨b2, o2 + k * 14 + 6, none⟩ = some (.int .i64 c.fl) ∧ w'.cell? ⟨b2, o2 + k * 14 + 7, none⟩ = some (.int .i64 c.ac) ∧ w'.cell? ⟨b2, o2 + k * 14 + 8, none⟩ = some (.int .i64 c.la) ∧ w'.cell? ⟨b2, o2 + k * 14 + 9, none⟩ = some (.int .i64 c.og) ∧ w'.cell? ⟨b2, o2 + k * 14 + 10, none⟩ = some (.int .i64 c.st) ∧ w'.cell? ⟨b2, o2 + k * 14 + 11, none⟩ = some (.int .i64 c.fr) ∧ w'.cell? ⟨b2, o2 + k * 14 + 12, none⟩ = some (.bool c.sl) ∧ w'.cell? ⟨b2, o2 + k * 14 + 13, none⟩ = some (.slice s2 c.xs.length sc2)) (go_keep)
        (first | (go_at_call 80; refine (eqConn_same sc1 sc2 c (HS1.out.up (by exact hbw.size)) (HS2.out.up (by exact hbw.size)) hp).mono ?_; rintro e w2 ⟨rfl, hb3⟩; have x0 := (below_cells hb3 _ _ hw1).trans p0; have x1 := (below_cells hb3 _ _ hw1).trans p1; have x2 := (below_cells hb3 _ _ hw1).trans p2; have x3 := (below_cells hb3 _ _ hw1).trans p3; have x4 := (below_cells hb3 _ _ hw1).trans p4; have x5 := (below_cells hb3 _ _ hw1).trans p5; have x6 := (below_cells hb3 _ _ hw1).trans p6; have x7 := (below_cells hb3 _ _ hw1).trans p7; have x8 := (below_cells hb3 _ _ hw1).trans p8; have x9 := (below_cells hb3 _ _ hw1).trans p9; have x10 := (below_cells hb3 _ _ hw1).trans p10; have x11 := (below_cells hb3 _ _ hw1).trans p11; have x12 := (below_cells hb3 _ _ hw1).trans p12; have x13 := (below_cells hb3 _ _ hw1).trans c13; have z0 := (below_cells hb3 _ _ hw2).trans q0; have z1 := (below_cells hb3 _ _ hw2).trans q1; have z2 := (below_cells hb3 _ _ hw2).trans q2; have z3 := (below_cells hb3 _ _ hw2).trans q3; have z4 := (below_cells hb3 _ _ hw2).trans q4; have z5 := (below_cells hb3 _ _ hw2).trans q5; have z6 := (below_cells hb3 _ _ hw2).trans q6; have z7 := (below_cells hb3 _ _ hw2).trans q7; have z8 := (below_cells hb3 _ _ hw2).trans q8; have z9 := (below_cells hb3 _ _ hw2).trans q9; have z10 := (below_cells hb3 _ _ hw2).trans q10; have z11 := (below_cells hb3 _ _ hw2).trans q11; have z12 := (below_cells hb3 _ _ hw2).trans q12; have z13 := (below_cells hb3 _ _ hw2).trans d13; have hbx : Below w.heap.size w w2 := hbw.drew.trans (hb3.mono hbw.size)))
      go_wp2
      go_roundw
      case rel => exact ⟨k + 1, by go_num, by omega, hbx⟩
      case measure => first | (simp [intOf]; done) | (simp [intOf]; omega)
    · have e : k = ks.length := by omega
      subst e
      go_wp2
      go_ret
      exact ⟨rfl, hbw⟩
end Go.Proofs.Ytibfclfidaofkas
