/- The draw of what Observe takes. -/
import Derived.Test.YtiibafphgjlffaeDraw12c
import Derived.Test.YtiibafphgjlffaeLoss
import Derived.Deep.CutRange
import Derived.Deep.CutBlock
namespace Go.Proofs.Ytiibafphgjlffae
open Go.ChangeShapes Go.WideShapes Go.ChangeAt Go.RowKit
set_option maxRecDepth 100000
set_option linter.unusedVariables false
set_option linter.unusedSimpArgs false

/-- While Observe's arguments are drawn: the result's block, the cursor behind it, the Probe in block q. -/
structure E12 (B : Nat) (a0 : Option Addr) (len cap b : Nat) (w wr : World) (q : Nat) (s : Pb) (a : Option Addr) (n c : Nat) (ys : List (Int × Int)) : Prop where
  cur : Cur B a0 len cap b wr
  bel : Below w.heap.size w wr
  ob : w.heap.size < b
  oq : b < q
  res : Pc wr w.heap.size ⟨0, 0, 0, 0, 0, 0, 0⟩ (.slice none 0 0)
  rf : ∀ o : Nat, wr.frozen? ⟨w.heap.size, o, none⟩ = false
  prb : Pc wr q s (.slice a n c)
  own : ∀ g, (Value.slice a n c).ownBlock = some g → b < g
  fv : FV wr w.heap.size (.slice a n c) ys
  le : ys.length ≤ 101
section
variable {B : Nat} {a0 : Option Addr} {len cap b : Nat} {w wr : World} {q : Nat} {s : Pb} {a : Option Addr} {n c : Nat} {ys : List (Int × Int)} 
theorem E12.draw (d : E12 B a0 len cap b w wr q s a n c ys) {w2 : World} (o : Only b wr w2) (k : Cur B a0 len cap b w2) : E12 B a0 len cap b w w2 q s a n c ys :=
  have h1 := d.ob; have h2 := d.oq; have h3 := d.prb.z; have h4 := d.res.z
  ⟨k, d.bel.trans (o.below (by omega) (by omega)), d.ob, d.oq, d.res.onlyO (OnlyO.of_only o) (fun e => by injection e with e; omega), fun i => (o.frozen (by exact h4) (by show w.heap.size ≠ b; omega)).trans (d.rf i), d.prb.onlyO (OnlyO.of_only o) (fun e => by injection e with e; omega), d.own, d.fv.onlyO (OnlyO.of_only o) (fun g hg e => by have := d.own g hg; injection e with e; omega), d.le⟩
theorem E12.next (d : E12 B a0 len cap b w wr q s a n c ys) {w2 : World} (h : Below wr.heap.size wr w2) : E12 B a0 len cap b w w2 q s a n c ys := d.draw (Only.of_below h) (d.cur.mono h)
theorem e12_new {w1 w2 : World} {t u : TypeId} (hb : w.heap.size + 1 ≤ b) (h1 : Below (w.alloc (.cells #[.int .i64 0, .int .i64 0, .int .i64 0, .int .i64 0, .int .i64 0, .slice none 0 0, .int .i64 0, .int .i64 0] t)).heap.size (w.alloc (.cells #[.int .i64 0, .int .i64 0, .int .i64 0, .int .i64 0, .int .i64 0, .slice none 0 0, .int .i64 0, .int .i64 0] t)) w1) (k1 : Cur B a0 len cap b w1) (o2 : Only b w1 w2) (k2 : Cur B a0 len cap b w2) (f : FV w2 w1.heap.size (.slice a n c) ys) (le : ys.length ≤ 101) :
    E12 B a0 len cap b w (w2.alloc (.cells #[.int .i64 s.sa, .int .i64 s.cy, .int .i64 s.sn, .int .i64 s.tp, .int .i64 s.sv, .slice a n c, .int .i64 s.mt, .int .i64 s.ta] u)) w2.heap.size s a n c ys := by
  have z1 : w.heap.size + 1 ≤ w1.heap.size := by have := h1.size; simpa using this
  have z2 := o2.size
  have zb := k1.hi
  have hn := new_below w2 (.cells #[.int .i64 s.sa, .int .i64 s.cy, .int .i64 s.sn, .int .i64 s.tp, .int .i64 s.sv, .slice a n c, .int .i64 s.mt, .int .i64 s.ta] u)
  have r1 : Pc w1 w.heap.size ⟨0, 0, 0, 0, 0, 0, 0⟩ (.slice none 0 0) := (pc_new w ⟨0, 0, 0, 0, 0, 0, 0⟩ (.slice none 0 0) t).next h1
  have r2 := r1.onlyO (OnlyO.of_only o2) (fun e => by injection e with e; omega)
  refine ⟨k2.mono hn, ((below_step (w := w) (new_below w _) h1).trans (o2.below (by omega) (by omega))).trans (hn.mono (by omega)), by omega, by omega, r2.next hn, ?_, pc_new w2 s _ u, ?_, (f.lower (by omega)).next hn, le⟩
  · intro o
    exact (hn.frozen (by show w.heap.size < _; omega)).trans ((o2.frozen (by show w.heap.size < _; omega) (by show w.heap.size ≠ b; omega)).trans ((h1.frozen (by show w.heap.size < _; simp)).trans (by go_simp)))
  · intro g hg
    have := f.own hg
    omega
theorem e12_out (d : E12 B a0 len cap b w wr q s a n c ys) : ∃ y, y = ((((((((wr.setCell ⟨w.heap.size, 0, none⟩ (.int .i64 s.sa)).setCell ⟨w.heap.size, 1, none⟩ (.int .i64 s.cy)).setCell ⟨w.heap.size, 2, none⟩ (.int .i64 s.sn)).setCell ⟨w.heap.size, 3, none⟩ (.int .i64 s.tp)).setCell ⟨w.heap.size, 4, none⟩ (.int .i64 s.sv)).setCell ⟨w.heap.size, 5, none⟩ (.slice a n c)).setCell ⟨w.heap.size, 6, none⟩ (.int .i64 s.mt)).setCell ⟨w.heap.size, 7, none⟩ (.int .i64 s.ta)) ∧ (∀ j v, [.int .i64 s.sa, .int .i64 s.cy, .int .i64 s.sn, .int .i64 s.tp, .int .i64 s.sv, .slice a n c, .int .i64 s.mt, .int .i64 s.ta][j]? = some v → y.cell? ⟨w.heap.size, j, none⟩ = some v) ∧ FV y w.heap.size (.slice a n c) ys ∧ Below w.heap.size w y := by
  have h1 := d.ob
  obtain ⟨y, ey, cs, far, fz, zy, hbel, hon⟩ := over8 (.int .i64 s.sa) (.int .i64 s.cy) (.int .i64 s.sn) (.int .i64 s.tp) (.int .i64 s.sv) (.slice a n c) (.int .i64 s.mt) (.int .i64 s.ta) (w := wr) (g := w.heap.size) d.res.c0 d.res.c1 d.res.c2 d.res.c3 d.res.c4 d.res.c5 d.res.c6 d.res.c7
  exact ⟨y, ey, cs, d.fv.onlyO (OnlyO.of_only hon) (fun g hg e => by have := d.own g hg; injection e with e; omega), d.bel.trans (hbel _ (Nat.le_refl _))⟩
theorem E12.last (d : E12 B a0 len cap b w wr q s a n c ys) (h : 0 < n) : ∃ (bb oo : Nat) (z : Int), a = some ⟨bb, oo, none⟩ ∧ wr.cell? ⟨bb, oo + (n - 1) * 2, none⟩ = some (.int .i64 z) ∧ n ≤ 101 := by
  obtain ⟨hn, hs⟩ := d.fv.smp
  have := d.le
  obtain ⟨bb, oo, e, _, c0, _⟩ := hs (n - 1) (by omega)
  exact ⟨bb, oo, _, e, c0, by omega⟩
end
section
variable {P : Program}
theorem results_c4 {fn : Func} {p u1 u2 u3 u4 : Tmp} {ty : TypeId} (h : fn.results = #[.cell p ty, .tmp u1, .tmp u2, .tmp u3, .tmp u4]) (tmps : Array Value) (w : World) (g : Nat) (cs : List Value) {d : TypeDesc}
    (hp : tmps.getD p undef = .pointer (some ⟨g, 0, none⟩)) (hc : ∀ j v, cs[j]? = some v → w.cell? ⟨g, j, none⟩ = some v)
    (hu : P.underlying ty = some d) (hd : (match d with | .struct _ | .array _ _ => true | _ => false) = true) (hi : (P.info? ty).map (·.size) = some cs.length) :
    (results fn tmps).run P w = .ok (.tuple #[.agg cs.toArray, tmps.getD u1 undef, tmps.getD u2 undef, tmps.getD u3 undef, tmps.getD u4 undef]) w := by
  have hp' : tmps[p]?.getD undef = .pointer (some ⟨g, 0, none⟩) := by simpa using hp
  have hl := loadVar_cells (P := P) w g 0 ty cs (fun j v hv => by rw [Nat.zero_add]; exact hc j v hv) hu hd hi
  simp [results, h, hp', asAddr, hl, Sem.run_bind, Result.andThen]
end
def DOPost (w : World) (e : Ending) (w' : World) : Prop := ∃ (s : Pb) (a : Option Addr) (n c : Nat) (ys : List (Int × Int)) (now rate trip flight : Int), e = .returned (.tuple #[.agg #[.int .i64 s.sa, .int .i64 s.cy, .int .i64 s.sn, .int .i64 s.tp, .int .i64 s.sv, .slice a n c, .int .i64 s.mt, .int .i64 s.ta], .int .i64 now, .int .i64 rate, .int .i64 trip, .int .i64 flight]) ∧ FV w' w.heap.size (.slice a n c) ys ∧ ys.length ≤ 101 ∧ Below w.heap.size w w'
theorem nowTab_in (X : Nat) (h : X < 5) : ∃ y : Int, (#[Value.int IntKind.i64 0, Value.int IntKind.i64 1, Value.int IntKind.i64 50000000, Value.int IntKind.i64 200000000, Value.int IntKind.i64 10000000000] : Array Value)[X]? = some (.int .i64 y) := by
  match X, h with
  | 0, _ => exact ⟨_, rfl⟩
  | 1, _ => exact ⟨_, rfl⟩
  | 2, _ => exact ⟨_, rfl⟩
  | 3, _ => exact ⟨_, rfl⟩
  | 4, _ => exact ⟨_, rfl⟩
set_option maxHeartbeats 16000000 in
theorem drawObserve_any {B : Nat} {a0 : Option Addr} {len : Nat} (cap : Nat) {w : World} (hs : len ≤ 4096) (row : Row B a0 len w) (hB : B ≤ w.heap.size) :
    Calls Try.prog 41 #[.slice a0 len cap] w (DOPost w) := by
  go_enter Try.func41, Try.ntmps41
  go_upto_region 3 with (first
    | (go_at_call 61; refine (new_any cap hs (row.mono ((Below.refl B w).alloc hB _)) (by simp; omega)).mono ?_; rintro e w1 ⟨b, rfl, hb, k1, hb1⟩)
    | (go_at_call 89; refine (l12DrawAny_acc k1).mono ?_; rintro e w2 ⟨s, a, n, c, ys, rfl, fy, hle, k2, o2⟩))
  have d := e12_new (u := 53) (s := s) (by simpa using hb) hb1 k1 o2 k2 fy hle
  obtain ⟨x4, hx4⟩ : ∃ y, y = w2.alloc (.cells #[.int .i64 s.sa, .int .i64 s.cy, .int .i64 s.sn, .int .i64 s.tp, .int .i64 s.sv, .slice a n c, .int .i64 s.mt, .int .i64 s.ta] 53) := ⟨_, rfl⟩
  obtain ⟨q, hq⟩ : ∃ g, w2.heap.size = g := ⟨_, rfl⟩
  rw [← hx4, hq] at d
  rw [← hx4]
  simp only [hq]
  have D : Hid (E12 B a0 len cap b w x4 q s a n c ys) := d
  clear d hx4 hq k1 k2 o2 fy hle hb1 hb
  have p0 : x4.cell? ⟨q, 0, none⟩ = some (.int .i64 s.sa) := D.out.prb.c0
  have p1 : x4.cell? ⟨q, 1, none⟩ = some (.int .i64 s.cy) := D.out.prb.c1
  have p2 : x4.cell? ⟨q, 2, none⟩ = some (.int .i64 s.sn) := D.out.prb.c2
  have p3 : x4.cell? ⟨q, 3, none⟩ = some (.int .i64 s.tp) := D.out.prb.c3
  have p4 : x4.cell? ⟨q, 4, none⟩ = some (.int .i64 s.sv) := D.out.prb.c4
  have p5 : x4.cell? ⟨q, 5, none⟩ = some (.slice a n c) := D.out.prb.c5
  have p6 : x4.cell? ⟨q, 6, none⟩ = some (.int .i64 s.mt) := D.out.prb.c6
  have p7 : x4.cell? ⟨q, 7, none⟩ = some (.int .i64 s.ta) := D.out.prb.c7
  have hn101 : n ≤ 101 := by have := D.out.fv.smp.1; have := D.out.le; omega
  obtain ⟨t0, ht0⟩ : ∃ t, max s.sn s.ta = t := ⟨_, rfl⟩
  go_upto_if 28 with (first
    | (go_at_call 57; refine (max10_any _ _ _).mono ?_; rintro e wM ⟨rfl, hM⟩; have hM := hM.symm; subst hM; rw [ht0]))
  go_cut [9] from 1 to 0 (fun vv wd => ∃ z : Int, vv = .int .i64 z ∧ x4 = wd)
  case first =>
    by_cases hn : 0 < n
    · have hn' : decide (0 < n) = true := decide_eq_true hn
      obtain ⟨bb, oo, z, rfl, hz, _⟩ := D.out.last hn
      obtain ⟨m, rfl⟩ : ∃ m, n = m + 1 := ⟨n - 1, by omega⟩
      rw [show m + 1 - 1 = m by omega] at hz
      have hm1 : IntKind.i64.wrap ((m : Int) + 1 - 1) = (m : Int) := by rw [IntKind.wrap_i64]; omega
      have hm2 : IntKind.i64.wrap (((m + 1 : Nat) : Int) - 1) = (m : Int) := by rw [IntKind.wrap_i64]; omega
      have hm3 : (m : Int) < ((m + 1 : Nat) : Int) := by omega
      have hm4 : (m : Int) < (m : Int) + 1 := by omega
      have hm5 : ¬ (m : Int) < 0 := by omega
      have hm6 : IntKind.i64.wrap (m : Int) = (m : Int) := by rw [IntKind.wrap_i64]; omega
      go_wp2_with (first
        | (go_at_call 57; refine (max10_any _ _ _).mono ?_; rintro e wM ⟨rfl, hM⟩; have hM := hM.symm; subst hM))
      go_meet
      exact ⟨_, rfl, rfl⟩
    · have hn' : decide (0 < n) = false := decide_eq_false hn
      go_wp2
      go_meet
      exact ⟨_, rfl, rfl⟩
  case rest =>
  obtain ⟨z, rfl, rfl⟩ := hcut
  go_upto_if 47 with (first
    | (go_at_call_of 79 (Value.int IntKind.i64 5); refine (below_acc 5 (D.out.cur.alloc _) (Only.refl _ _) (by omega) (by omega)).mono ?_; rintro e w6 ⟨x6, rfl, hx6, k6, o6⟩; obtain ⟨Y, rfl⟩ := Int.eq_ofNat_of_zero_le hx6.1; obtain ⟨v, hv⟩ := nowTab_in Y (by omega); have hcell := (table_cell D.out.cur.hi o6 Y).trans hv; clear hv; have D : Hid (E12 B a0 len cap b w w6 q s a n c ys) := (D.out.next (new_below _ _)).draw o6 k6; have hY : (Y : Int) < 5 := (by omega))
    | (go_at_call 80; refine (once_acc _ D.out.cur (Only.refl _ _) (by omega) (by omega)).mono ?_; rintro e w7 ⟨f7, rfl, kk, oo⟩; have D : Hid (E12 B a0 len cap b w w7 q s a n c ys) := D.out.draw oo kk))
  go_cut [9] from 1 to 0 (fun vv wd => ∃ z : Int, vv = .int .i64 z ∧ E12 B a0 len cap b w wd q s a n c ys)
  case first =>
    cases f7
    · go_wp2
      go_meet
      exact ⟨_, rfl, D.out⟩
    · go_wp2_with (first
        | (go_at_call 87; refine (drawTime_acc D.out.cur (Only.refl _ _)).mono ?_; rintro e w8 ⟨vw8, rfl, hvw8, kk, oo⟩; have D : Hid (E12 B a0 len cap b w w8 q s a n c ys) := D.out.draw oo kk))
      go_meet
      exact ⟨_, rfl, D.out⟩
  case rest =>
  obtain ⟨z1, rfl, d⟩ := hcut
  have D : Hid (E12 B a0 len cap b w wc q s a n c ys) := d
  clear d
  go_upto_if 56 with (first
    | (go_at_call 90; refine (drawRate_acc D.out.cur (Only.refl _ _)).mono ?_; rintro e w9 ⟨vw9, rfl, hvw9, kk, oo⟩; have D : Hid (E12 B a0 len cap b w w9 q s a n c ys) := D.out.draw oo kk)
    | (go_at_call_of 79 (Value.int IntKind.i64 60000000); refine (below_acc 60000000 D.out.cur (Only.refl _ _) (by omega) (by omega)).mono ?_; rintro e w10 ⟨xw10, rfl, hxw10, kk, oo⟩; have D : Hid (E12 B a0 len cap b w w10 q s a n c ys) := D.out.draw oo kk)
    | (go_at_call 80; refine (once_acc _ D.out.cur (Only.refl _ _) (by omega) (by omega)).mono ?_; rintro e w11 ⟨f11, rfl, kk, oo⟩; have D : Hid (E12 B a0 len cap b w w11 q s a n c ys) := D.out.draw oo kk))
  go_cut [12] from 1 to 0 (fun vv wd => ∃ z : Int, vv = .int .i64 z ∧ E12 B a0 len cap b w wd q s a n c ys)
  case first =>
    cases f11
    · go_wp2
      go_meet
      exact ⟨_, rfl, D.out⟩
    · go_wp2_with (first
        | (go_at_call 87; refine (drawTime_acc D.out.cur (Only.refl _ _)).mono ?_; rintro e w12 ⟨vw12, rfl, hvw12, kk, oo⟩; have D : Hid (E12 B a0 len cap b w w12 q s a n c ys) := D.out.draw oo kk))
      go_meet
      exact ⟨_, rfl, D.out⟩
  case rest =>
  obtain ⟨z2, rfl, d⟩ := hcut
  have D : Hid (E12 B a0 len cap b w wc q s a n c ys) := d
  clear d
  go_upto_if 62 with (first
    | (go_at_call_of 79 (Value.int IntKind.i64 30000); refine (below_acc 30000 D.out.cur (Only.refl _ _) (by omega) (by omega)).mono ?_; rintro e w13 ⟨xw13, rfl, hxw13, kk, oo⟩; have D : Hid (E12 B a0 len cap b w w13 q s a n c ys) := D.out.draw oo kk)
    | (go_at_call 80; refine (once_acc _ D.out.cur (Only.refl _ _) (by omega) (by omega)).mono ?_; rintro e w14 ⟨f14, rfl, kk, oo⟩; have D : Hid (E12 B a0 len cap b w w14 q s a n c ys) := D.out.draw oo kk))
  go_cut [13] from 1 to 0 (fun vv wd => ∃ z : Int, vv = .int .i64 z ∧ E12 B a0 len cap b w wd q s a n c ys)
  case first =>
    cases f14
    · go_wp2
      go_meet
      exact ⟨_, rfl, D.out⟩
    · go_wp2_with (first
        | (go_at_call 78; refine (drawWindow_acc D.out.cur (Only.refl _ _)).mono ?_; rintro e w15 ⟨vw15, rfl, hvw15, kk, oo⟩; have D : Hid (E12 B a0 len cap b w w15 q s a n c ys) := D.out.draw oo kk))
      go_meet
      exact ⟨_, rfl, D.out⟩
  case rest =>
  obtain ⟨z3, rfl, d⟩ := hcut
  have D : Hid (E12 B a0 len cap b w wc q s a n c ys) := d
  clear d
  have p0 : wc.cell? ⟨q, 0, none⟩ = some (.int .i64 s.sa) := D.out.prb.c0
  have p1 : wc.cell? ⟨q, 1, none⟩ = some (.int .i64 s.cy) := D.out.prb.c1
  have p2 : wc.cell? ⟨q, 2, none⟩ = some (.int .i64 s.sn) := D.out.prb.c2
  have p3 : wc.cell? ⟨q, 3, none⟩ = some (.int .i64 s.tp) := D.out.prb.c3
  have p4 : wc.cell? ⟨q, 4, none⟩ = some (.int .i64 s.sv) := D.out.prb.c4
  have p5 : wc.cell? ⟨q, 5, none⟩ = some (.slice a n c) := D.out.prb.c5
  have p6 : wc.cell? ⟨q, 6, none⟩ = some (.int .i64 s.mt) := D.out.prb.c6
  have p7 : wc.cell? ⟨q, 7, none⟩ = some (.int .i64 s.ta) := D.out.prb.c7
  have r0 : wc.cell? ⟨w.heap.size, 0, none⟩ = some (.int .i64 0) := D.out.res.c0
  have r1 : wc.cell? ⟨w.heap.size, 1, none⟩ = some (.int .i64 0) := D.out.res.c1
  have r2 : wc.cell? ⟨w.heap.size, 2, none⟩ = some (.int .i64 0) := D.out.res.c2
  have r3 : wc.cell? ⟨w.heap.size, 3, none⟩ = some (.int .i64 0) := D.out.res.c3
  have r4 : wc.cell? ⟨w.heap.size, 4, none⟩ = some (.int .i64 0) := D.out.res.c4
  have r5 : wc.cell? ⟨w.heap.size, 5, none⟩ = some (.slice none 0 0) := D.out.res.c5
  have r6 : wc.cell? ⟨w.heap.size, 6, none⟩ = some (.int .i64 0) := D.out.res.c6
  have r7 : wc.cell? ⟨w.heap.size, 7, none⟩ = some (.int .i64 0) := D.out.res.c7
  have rz := D.out.rf
  go_wp2
  obtain ⟨y, ey, cs, fy, hby⟩ := e12_out D.out
  rw [← ey]
  refine bodyPost_ret (results_c4 rfl _ _ _ [.int .i64 s.sa, .int .i64 s.cy, .int .i64 s.sn, .int .i64 s.tp, .int .i64 s.sv, .slice a n c, .int .i64 s.mt, .int .i64 s.ta] rfl cs Try.underlying53 rfl (by kernel_rfl)) rfl ?_
  exact ⟨s, a, n, c, ys, _, _, _, _, rfl, fy, D.out.le, hby⟩
end Go.Proofs.Ytiibafphgjlffae
