/- The draw of a Probe, one number of it out of the ordinary at times. -/
import Derived.Test.YtiibafphgjlffaeDraw12b
namespace Go.Proofs.Ytiibafphgjlffae
open Go.ChangeShapes Go.WideShapes Go.ChangeAt Go.RowKit
set_option maxRecDepth 100000
set_option linter.unusedVariables false
set_option linter.unusedSimpArgs false

theorem stTab_in (X : Nat) (h : X < 4) : ∃ y : Int, (#[Value.int IntKind.i64 0, Value.int IntKind.i64 5, Value.int IntKind.i64 4, Value.int IntKind.i64 (-1)] : Array Value)[X]? = some (.int .i64 y) := by
  match X, h with
  | 0, _ => exact ⟨_, rfl⟩
  | 1, _ => exact ⟨_, rfl⟩
  | 2, _ => exact ⟨_, rfl⟩
  | 3, _ => exact ⟨_, rfl⟩
theorem cyTab_in (X : Nat) (h : X < 3) : ∃ y : Int, (#[Value.int IntKind.i64 (-1), Value.int IntKind.i64 7, Value.int IntKind.i64 8] : Array Value)[X]? = some (.int .i64 y) := by
  match X, h with
  | 0, _ => exact ⟨_, rfl⟩
  | 1, _ => exact ⟨_, rfl⟩
  | 2, _ => exact ⟨_, rfl⟩
theorem svTab_in (X : Nat) (h : X < 3) : ∃ y : Int, (#[Value.int IntKind.i64 (-1), Value.int IntKind.i64 3, Value.int IntKind.i64 4] : Array Value)[X]? = some (.int .i64 y) := by
  match X, h with
  | 0, _ => exact ⟨_, rfl⟩
  | 1, _ => exact ⟨_, rfl⟩
  | 2, _ => exact ⟨_, rfl⟩
set_option maxHeartbeats 8000000 in
theorem l12DrawAny_acc {B : Nat} {a0 : Option Addr} {len cap b : Nat} {w : World} (k : Cur B a0 len cap b w) : Calls Try.prog 89 #[.pointer (some ⟨b, 0, none⟩)] w (P12 B a0 len cap b w) := by
  have hlt := k.hi
  go_enter Try.func89, Try.ntmps89
  go_upto_region 2 with (first
    | (go_at_call 114; refine (l12Draw_acc (k.alloc _)).mono ?_; rintro e w3 ⟨s, a, n, c, ys, rfl, fy, hle, k3, o3⟩))
  have d := d12_new (u := 53) (s := s) hlt (Only.refl b _) (.inr o3) k3 fy hle
  obtain ⟨x4, hx4⟩ : ∃ y, y = w3.alloc (.cells #[.int .i64 s.sa, .int .i64 s.cy, .int .i64 s.sn, .int .i64 s.tp, .int .i64 s.sv, .slice a n c, .int .i64 s.mt, .int .i64 s.ta] 53) := ⟨_, rfl⟩
  obtain ⟨q, hq⟩ : ∃ g, w3.heap.size = g := ⟨_, rfl⟩
  rw [← hx4, hq] at d
  rw [← hx4]
  simp only [hq]
  have D : Hid (D12 B a0 len cap b w x4 q s a n c ys) := d
  clear d hx4 hq k3 o3 fy hle
  go_upto_if 7 with (first
    | (go_at_call 80; refine (once_acc _ D.out.cur (Only.refl _ _) (by omega) (by omega)).mono ?_; rintro e w4 ⟨f4, rfl, k4, o4⟩; have D : Hid (D12 B a0 len cap b w w4 q s a n c ys) := D.out.draw o4 k4))
  go_cut [] from 1 to 0 (fun wd => ∃ s a n c ys, D12 B a0 len cap b w wd q s a n c ys)
  case first =>
    cases f4
    · go_wp2
      go_meet
      exact ⟨_, _, _, _, _, D.out⟩
    · go_upto_region 4 with (first
        | (go_at_call 79; refine (below_acc _ D.out.cur (Only.refl _ _) (by omega) (by omega)).mono ?_; rintro e w5 ⟨x5, rfl, hx5, k5, o5⟩; have D5 : Hid (D12 B a0 len cap b w w5 q s a n c ys) := D.out.draw o5 k5))
      have hx : x5 = 0 ∨ x5 = 1 ∨ x5 = 2 ∨ x5 = 3 ∨ x5 = 4 ∨ x5 = 5 := by omega
      clear hx5 k5 o5 D
      rcases hx with rfl | rfl | rfl | rfl | rfl | rfl
      · go_wp2_with (first
          | (go_at_call_of 79 (Value.int IntKind.i64 4); refine (below_acc 4 (D5.out.cur.alloc _) (Only.refl _ _) (by omega) (by omega)).mono ?_; rintro e w6 ⟨x6, rfl, hx6, k6, o6⟩; obtain ⟨Y, rfl⟩ := Int.eq_ofNat_of_zero_le hx6.1; obtain ⟨v, hv⟩ := stTab_in Y (by omega); have hcell := (table_cell D5.out.cur.hi o6 Y).trans hv; clear hv; have D6 : Hid (D12 B a0 len cap b w w6 q s a n c ys) := (D5.out.next (new_below _ _)).draw o6 k6; have p0 : w6.cell? ⟨q, 0, none⟩ = some (.int .i64 s.sa) := D6.out.prb.c0; have p1 : w6.cell? ⟨q, 1, none⟩ = some (.int .i64 s.cy) := D6.out.prb.c1; have p2 : w6.cell? ⟨q, 2, none⟩ = some (.int .i64 s.sn) := D6.out.prb.c2; have p3 : w6.cell? ⟨q, 3, none⟩ = some (.int .i64 s.tp) := D6.out.prb.c3; have p4 : w6.cell? ⟨q, 4, none⟩ = some (.int .i64 s.sv) := D6.out.prb.c4; have p5 : w6.cell? ⟨q, 5, none⟩ = some (.slice a n c) := D6.out.prb.c5; have p6 : w6.cell? ⟨q, 6, none⟩ = some (.int .i64 s.mt) := D6.out.prb.c6; have p7 : w6.cell? ⟨q, 7, none⟩ = some (.int .i64 s.ta) := D6.out.prb.c7; have pz := D6.out.pf; have pq := D6.out.prb.z; have hY : (Y : Int) < 4 := (by omega)))
        go_meet
        exact ⟨_, _, _, _, _, D6.out.set_sa v⟩
      · go_wp2_with (first
          | (go_at_call_of 79 (Value.int IntKind.i64 3); refine (below_acc 3 (D5.out.cur.alloc _) (Only.refl _ _) (by omega) (by omega)).mono ?_; rintro e w6 ⟨x6, rfl, hx6, k6, o6⟩; obtain ⟨Y, rfl⟩ := Int.eq_ofNat_of_zero_le hx6.1; obtain ⟨v, hv⟩ := cyTab_in Y (by omega); have hcell := (table_cell D5.out.cur.hi o6 Y).trans hv; clear hv; have D6 : Hid (D12 B a0 len cap b w w6 q s a n c ys) := (D5.out.next (new_below _ _)).draw o6 k6; have p0 : w6.cell? ⟨q, 0, none⟩ = some (.int .i64 s.sa) := D6.out.prb.c0; have p1 : w6.cell? ⟨q, 1, none⟩ = some (.int .i64 s.cy) := D6.out.prb.c1; have p2 : w6.cell? ⟨q, 2, none⟩ = some (.int .i64 s.sn) := D6.out.prb.c2; have p3 : w6.cell? ⟨q, 3, none⟩ = some (.int .i64 s.tp) := D6.out.prb.c3; have p4 : w6.cell? ⟨q, 4, none⟩ = some (.int .i64 s.sv) := D6.out.prb.c4; have p5 : w6.cell? ⟨q, 5, none⟩ = some (.slice a n c) := D6.out.prb.c5; have p6 : w6.cell? ⟨q, 6, none⟩ = some (.int .i64 s.mt) := D6.out.prb.c6; have p7 : w6.cell? ⟨q, 7, none⟩ = some (.int .i64 s.ta) := D6.out.prb.c7; have pz := D6.out.pf; have pq := D6.out.prb.z; have hY : (Y : Int) < 3 := (by omega)))
        go_meet
        exact ⟨_, _, _, _, _, D6.out.set_cy v⟩
      · go_wp2_with (first
          | (go_at_call_of 79 (Value.int IntKind.i64 3); refine (below_acc 3 (D5.out.cur.alloc _) (Only.refl _ _) (by omega) (by omega)).mono ?_; rintro e w6 ⟨x6, rfl, hx6, k6, o6⟩; obtain ⟨Y, rfl⟩ := Int.eq_ofNat_of_zero_le hx6.1; obtain ⟨v, hv⟩ := svTab_in Y (by omega); have hcell := (table_cell D5.out.cur.hi o6 Y).trans hv; clear hv; have D6 : Hid (D12 B a0 len cap b w w6 q s a n c ys) := (D5.out.next (new_below _ _)).draw o6 k6; have p0 : w6.cell? ⟨q, 0, none⟩ = some (.int .i64 s.sa) := D6.out.prb.c0; have p1 : w6.cell? ⟨q, 1, none⟩ = some (.int .i64 s.cy) := D6.out.prb.c1; have p2 : w6.cell? ⟨q, 2, none⟩ = some (.int .i64 s.sn) := D6.out.prb.c2; have p3 : w6.cell? ⟨q, 3, none⟩ = some (.int .i64 s.tp) := D6.out.prb.c3; have p4 : w6.cell? ⟨q, 4, none⟩ = some (.int .i64 s.sv) := D6.out.prb.c4; have p5 : w6.cell? ⟨q, 5, none⟩ = some (.slice a n c) := D6.out.prb.c5; have p6 : w6.cell? ⟨q, 6, none⟩ = some (.int .i64 s.mt) := D6.out.prb.c6; have p7 : w6.cell? ⟨q, 7, none⟩ = some (.int .i64 s.ta) := D6.out.prb.c7; have pz := D6.out.pf; have pq := D6.out.prb.z; have hY : (Y : Int) < 3 := (by omega)))
        go_meet
        exact ⟨_, _, _, _, _, D6.out.set_sv v⟩
      · go_wp2_with (first
          | (go_at_call 90; refine (drawRate_acc D5.out.cur (Only.refl _ _)).mono ?_; rintro e w6 ⟨v, rfl, hv, k6, o6⟩; have D6 : Hid (D12 B a0 len cap b w w6 q s a n c ys) := D5.out.draw o6 k6; have p0 : w6.cell? ⟨q, 0, none⟩ = some (.int .i64 s.sa) := D6.out.prb.c0; have p1 : w6.cell? ⟨q, 1, none⟩ = some (.int .i64 s.cy) := D6.out.prb.c1; have p2 : w6.cell? ⟨q, 2, none⟩ = some (.int .i64 s.sn) := D6.out.prb.c2; have p3 : w6.cell? ⟨q, 3, none⟩ = some (.int .i64 s.tp) := D6.out.prb.c3; have p4 : w6.cell? ⟨q, 4, none⟩ = some (.int .i64 s.sv) := D6.out.prb.c4; have p5 : w6.cell? ⟨q, 5, none⟩ = some (.slice a n c) := D6.out.prb.c5; have p6 : w6.cell? ⟨q, 6, none⟩ = some (.int .i64 s.mt) := D6.out.prb.c6; have p7 : w6.cell? ⟨q, 7, none⟩ = some (.int .i64 s.ta) := D6.out.prb.c7; have pz := D6.out.pf; have pq := D6.out.prb.z))
        go_meet
        exact ⟨_, _, _, _, _, D6.out.set_tp v⟩
      · go_wp2_with (first
          | (go_at_call 87; refine (drawTime_acc D5.out.cur (Only.refl _ _)).mono ?_; rintro e w6 ⟨v, rfl, hv, k6, o6⟩; have D6 : Hid (D12 B a0 len cap b w w6 q s a n c ys) := D5.out.draw o6 k6; have p0 : w6.cell? ⟨q, 0, none⟩ = some (.int .i64 s.sa) := D6.out.prb.c0; have p1 : w6.cell? ⟨q, 1, none⟩ = some (.int .i64 s.cy) := D6.out.prb.c1; have p2 : w6.cell? ⟨q, 2, none⟩ = some (.int .i64 s.sn) := D6.out.prb.c2; have p3 : w6.cell? ⟨q, 3, none⟩ = some (.int .i64 s.tp) := D6.out.prb.c3; have p4 : w6.cell? ⟨q, 4, none⟩ = some (.int .i64 s.sv) := D6.out.prb.c4; have p5 : w6.cell? ⟨q, 5, none⟩ = some (.slice a n c) := D6.out.prb.c5; have p6 : w6.cell? ⟨q, 6, none⟩ = some (.int .i64 s.mt) := D6.out.prb.c6; have p7 : w6.cell? ⟨q, 7, none⟩ = some (.int .i64 s.ta) := D6.out.prb.c7; have pz := D6.out.pf; have pq := D6.out.prb.z))
        go_meet
        exact ⟨_, _, _, _, _, D6.out.set_mt v⟩
      · go_wp2_with (first
          | (go_at_call 80; refine (once_acc _ D5.out.cur (Only.refl _ _) (by omega) (by omega)).mono ?_; rintro e w6 ⟨f6, rfl, k6, o6⟩; have D6 : Hid (D12 B a0 len cap b w w6 q s a n c ys) := D5.out.draw o6 k6; have zq6 := D6.out.prb.z; have zr6 := D6.out.oq)
          | (go_at_call 115; refine (l3Draw_acc f6 D6.out.cur).mono ?_; rintro e w7 ⟨a7, n7, c7, zs, rfl, f7, hz, k7, o7⟩; have D7 : Hid (D12 B a0 len cap b w w7 q s a n c ys) := D6.out.draw o7 k7; have p0 : w7.cell? ⟨q, 0, none⟩ = some (.int .i64 s.sa) := D7.out.prb.c0; have p1 : w7.cell? ⟨q, 1, none⟩ = some (.int .i64 s.cy) := D7.out.prb.c1; have p2 : w7.cell? ⟨q, 2, none⟩ = some (.int .i64 s.sn) := D7.out.prb.c2; have p3 : w7.cell? ⟨q, 3, none⟩ = some (.int .i64 s.tp) := D7.out.prb.c3; have p4 : w7.cell? ⟨q, 4, none⟩ = some (.int .i64 s.sv) := D7.out.prb.c4; have p5 : w7.cell? ⟨q, 5, none⟩ = some (.slice a n c) := D7.out.prb.c5; have p6 : w7.cell? ⟨q, 6, none⟩ = some (.int .i64 s.mt) := D7.out.prb.c6; have p7 : w7.cell? ⟨q, 7, none⟩ = some (.int .i64 s.ta) := D7.out.prb.c7; have pz := D7.out.pf; have pq := D7.out.prb.z))
        go_meet
        exact ⟨_, _, _, _, _, D7.out.set_f (fun g hg => by have := f7.own hg; omega) (f7.lower (by omega)) hz⟩
  case rest =>
  obtain ⟨s, a, n, c, ys, d⟩ := hcut
  have D : Hid (D12 B a0 len cap b w wc q s a n c ys) := d
  clear d
  have p0 : wc.cell? ⟨q, 0, none⟩ = some (.int .i64 s.sa) := D.out.prb.c0
  have p1 : wc.cell? ⟨q, 1, none⟩ = some (.int .i64 s.cy) := D.out.prb.c1
  have p2 : wc.cell? ⟨q, 2, none⟩ = some (.int .i64 s.sn) := D.out.prb.c2
  have p3 : wc.cell? ⟨q, 3, none⟩ = some (.int .i64 s.tp) := D.out.prb.c3
  have p4 : wc.cell? ⟨q, 4, none⟩ = some (.int .i64 s.sv) := D.out.prb.c4
  have p5 : wc.cell? ⟨q, 5, none⟩ = some (.slice a n c) := D.out.prb.c5
  have p6 : wc.cell? ⟨q, 6, none⟩ = some (.int .i64 s.mt) := D.out.prb.c6
  have p7 : wc.cell? ⟨q, 7, none⟩ = some (.int .i64 s.ta) := D.out.prb.c7
  have r0 : wc.cell? ⟨w.heap.size, 0, none⟩ = some (.int .i64 0) := D.out.res.c0
  have r1 : wc.cell? ⟨w.heap.size, 1, none⟩ = some (.int .i64 0) := D.out.res.c1
  have r2 : wc.cell? ⟨w.heap.size, 2, none⟩ = some (.int .i64 0) := D.out.res.c2
  have r3 : wc.cell? ⟨w.heap.size, 3, none⟩ = some (.int .i64 0) := D.out.res.c3
  have r4 : wc.cell? ⟨w.heap.size, 4, none⟩ = some (.int .i64 0) := D.out.res.c4
  have r5 : wc.cell? ⟨w.heap.size, 5, none⟩ = some (.slice none 0 0) := D.out.res.c5
  have r6 : wc.cell? ⟨w.heap.size, 6, none⟩ = some (.int .i64 0) := D.out.res.c6
  have r7 : wc.cell? ⟨w.heap.size, 7, none⟩ = some (.int .i64 0) := D.out.res.c7
  have rz := D.out.rf
  go_wp2
  obtain ⟨y, ey, cs, fy, ky, oy⟩ := d12_out D.out
  rw [← ey]
  refine bodyPost_ret (results_one rfl _ _ _ [.int .i64 s.sa, .int .i64 s.cy, .int .i64 s.sn, .int .i64 s.tp, .int .i64 s.sv, .slice a n c, .int .i64 s.mt, .int .i64 s.ta] rfl cs Try.underlying53 rfl (by kernel_rfl)) rfl ?_
  exact ⟨s, a, n, c, ys, rfl, fy, D.out.le, ky, oy⟩
end Go.Proofs.Ytiibafphgjlffae
