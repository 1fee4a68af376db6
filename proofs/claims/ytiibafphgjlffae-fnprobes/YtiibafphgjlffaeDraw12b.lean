/- The draw of a Probe. -/
import Derived.Test.YtiibafphgjlffaeDraw12
import Derived.Test.YtiibafphgjlffaeLate
import Derived.Deep.CutRange
import Derived.Deep.CutBlock
namespace Go.Proofs.Ytiibafphgjlffae
open Go.ChangeShapes Go.WideShapes Go.ChangeAt Go.RowKit
set_option maxRecDepth 100000
set_option linter.unusedVariables false
set_option linter.unusedSimpArgs false

theorem D12.cells {B : Nat} {a0 : Option Addr} {len cap b : Nat} {w wr : World} {q : Nat} {s : Pb} {a : Option Addr} {n c : Nat} {ys : List (Int × Int)} (d : D12 B a0 len cap b w wr q s a n c ys) : (fun w' => w'.cell? ⟨q, 0, none⟩ = some (.int .i64 s.sa) ∧ w'.cell? ⟨q, 1, none⟩ = some (.int .i64 s.cy) ∧ w'.cell? ⟨q, 2, none⟩ = some (.int .i64 s.sn) ∧ w'.cell? ⟨q, 3, none⟩ = some (.int .i64 s.tp) ∧ w'.cell? ⟨q, 4, none⟩ = some (.int .i64 s.sv) ∧ w'.cell? ⟨q, 5, none⟩ = some (.slice a n c) ∧ w'.cell? ⟨q, 6, none⟩ = some (.int .i64 s.mt) ∧ w'.cell? ⟨q, 7, none⟩ = some (.int .i64 s.ta)) wr := ⟨d.prb.c0, d.prb.c1, d.prb.c2, d.prb.c3, d.prb.c4, d.prb.c5, d.prb.c6, d.prb.c7⟩
set_option maxHeartbeats 8000000 in
theorem l12Draw_acc {B : Nat} {a0 : Option Addr} {len cap b : Nat} {w : World} (k : Cur B a0 len cap b w) : Calls Try.prog 114 #[.pointer (some ⟨b, 0, none⟩)] w (P12 B a0 len cap b w) := by
  have hlt := k.hi
  go_enter Try.func114, Try.ntmps114
  go_upto_region 3 with (first
    | (go_at_call 79; refine (below_acc _ (k.alloc _) (Only.refl _ _) (by omega) (by omega)).mono ?_; rintro e w2 ⟨x, rfl, hx, k2, o2⟩; have hT : timeB x = true := (by unfold timeB; simp only [Bool.and_eq_true, decide_eq_true_eq]; omega))
    | (go_at_call 137; refine (specNewProbe_yes _ hT).mono ?_; rintro e w3 ⟨rfl, hb3⟩))
  have d := d12_new (u := 53) (s := ⟨1, 0, x, 0, 0, 0, x⟩) (a := none) (n := 0) (c := 0) (ys := []) hlt o2 (.inl hb3) (k2.mono hb3) (.inr ⟨rfl, rfl⟩) (by decide)
  obtain ⟨x4, hx4⟩ : ∃ y, y = w3.alloc (.cells #[.int .i64 1, .int .i64 0, .int .i64 x, .int .i64 0, .int .i64 0, .slice none 0 0, .int .i64 0, .int .i64 x] 53) := ⟨_, rfl⟩
  obtain ⟨q, hq⟩ : ∃ g, w3.heap.size = g := ⟨_, rfl⟩
  rw [← hx4, hq] at d
  rw [← hx4]
  simp only [hq]
  have D : Hid (D12 B a0 len cap b w x4 q ⟨1, 0, x, 0, 0, 0, x⟩ none 0 0 []) := d
  clear d hx4 hq k2 o2 hb3
  go_wp2_with (first
    | (go_at_call 79; refine (below_acc _ D.out.cur (Only.refl _ _) (by omega) (by omega)).mono ?_; rintro e w5 ⟨m, rfl, hm, k5, o5⟩; have D : Hid (D12 B a0 len cap b w w5 q ⟨1, 0, x, 0, 0, 0, x⟩ none 0 0 []) := D.out.draw o5 k5))
  go_loopw [3, 6] (fun p i wr => ∃ (t : Int) (j : Nat) (s : Pb) (a : Option Addr) (n c : Nat) (ys : List (Int × Int)), p = .int .i64 t ∧ i = .int .i64 j ∧ j ≤ 14 ∧ D12 B a0 len cap b w wr q s a n c ys) (fun _ i _ => (intOf i).toNat)
  case atStart =>
    exact ⟨_, m.toNat, _, none, 0, 0, [], rfl, by rw [Int.toNat_of_nonneg hm.1], by omega, D.out⟩
  case round =>
    obtain ⟨t, j, s, a, n, c, ys, rfl, rfl, hj, d⟩ := hrel
    have D : Hid (D12 B a0 len cap b w wr q s a n c ys) := d
    clear d
    cases j with
    | succ j =>
      have hj0 : (0 : Int) < (j : Int) + 1 := by omega
      have hjw : IntKind.i64.wrap (j : Int) = (j : Int) := by rw [IntKind.wrap_i64]; omega
      go_upto_if 25 with (first
        | (go_at_call 79; refine (below_acc _ D.out.cur (Only.refl _ _) (by omega) (by omega)).mono ?_; rintro e v1 ⟨x1, rfl, hx1, k1, o1⟩; have D : Hid (D12 B a0 len cap b w v1 q s a n c ys) := D.out.draw o1 k1)
        | (go_at_call 80; refine (once_acc _ D.out.cur (Only.refl _ _) (by omega) (by omega)).mono ?_; rintro e v2 ⟨f2, rfl, k2, o2⟩; have D : Hid (D12 B a0 len cap b w v2 q s a n c ys) := D.out.draw o2 k2))
      go_cut [3] from 1 to 0 (fun s wd => ∃ z : Int, s = .int .i64 z ∧ v2 = wd)
      case first =>
        cases f2
        · go_wp2
          go_meet
          exact ⟨_, rfl, rfl⟩
        · go_wp2
          go_meet
          exact ⟨_, rfl, rfl⟩
      case rest =>
      obtain ⟨z, rfl, rfl⟩ := hcut
      go_upto_region 9 with (fail)
      have HS : Hid (∀ w', D12 B a0 len cap b w w' q s a n c ys → (fun w' => w'.cell? ⟨q, 0, none⟩ = some (.int .i64 s.sa) ∧ w'.cell? ⟨q, 1, none⟩ = some (.int .i64 s.cy) ∧ w'.cell? ⟨q, 2, none⟩ = some (.int .i64 s.sn) ∧ w'.cell? ⟨q, 3, none⟩ = some (.int .i64 s.tp) ∧ w'.cell? ⟨q, 4, none⟩ = some (.int .i64 s.sv) ∧ w'.cell? ⟨q, 5, none⟩ = some (.slice a n c) ∧ w'.cell? ⟨q, 6, none⟩ = some (.int .i64 s.mt) ∧ w'.cell? ⟨q, 7, none⟩ = some (.int .i64 s.ta)) w') := fun w' d => d.cells
      have DR : Hid (D12 B a0 len cap b w v2.drew q s a n c ys) := D.out.next (Below.refl _ _).drew
      have hqz := D.out.prb.z
      refine region_late (S := fun w' => w'.cell? ⟨q, 0, none⟩ = some (.int .i64 s.sa) ∧ w'.cell? ⟨q, 1, none⟩ = some (.int .i64 s.cy) ∧ w'.cell? ⟨q, 2, none⟩ = some (.int .i64 s.sn) ∧ w'.cell? ⟨q, 3, none⟩ = some (.int .i64 s.tp) ∧ w'.cell? ⟨q, 4, none⟩ = some (.int .i64 s.sv) ∧ w'.cell? ⟨q, 5, none⟩ = some (.slice a n c) ∧ w'.cell? ⟨q, 6, none⟩ = some (.int .i64 s.mt) ∧ w'.cell? ⟨q, 7, none⟩ = some (.int .i64 s.ta)) 11 (by kernel_rfl) (HS.out _ DR.out) (fun hS => ?_)
      refine late_take (i := 0) (v := ?_) rfl (by kernel_rfl) (by kernel_rfl) (by kernel_rfl) (by kernel_rfl) (fun _ _ _ h => h) (Or.inl ⟨by rfl, ?_⟩) (by assumption) ?_
      rotate_left 1
      · (intro w' hSw; (try dsimp only at hSw); go_simp; try with_reducible rfl)
      try simp only [Act.put, List.setIfInBounds_toArray, List.set_cons_zero, List.set_cons_succ, List.getElem_toArray, List.getElem_cons_succ, List.getElem_cons_zero]
      refine late_take (i := 1) (v := ?_) rfl (by kernel_rfl) (by kernel_rfl) (by kernel_rfl) (by kernel_rfl) (fun _ _ _ h => h) (Or.inl ⟨by rfl, ?_⟩) (by assumption) ?_
      rotate_left 1
      · (intro w' hSw; (try dsimp only at hSw); go_simp; try with_reducible rfl)
      try simp only [Act.put, List.setIfInBounds_toArray, List.set_cons_zero, List.set_cons_succ, List.getElem_toArray, List.getElem_cons_succ, List.getElem_cons_zero]
      refine late_take (i := 2) (v := ?_) rfl (by kernel_rfl) (by kernel_rfl) (by kernel_rfl) (by kernel_rfl) (fun _ _ _ h => h) (Or.inl ⟨by rfl, ?_⟩) (by assumption) ?_
      rotate_left 1
      · (intro w' hSw; (try dsimp only at hSw); go_simp; try with_reducible rfl)
      try simp only [Act.put, List.setIfInBounds_toArray, List.set_cons_zero, List.set_cons_succ, List.getElem_toArray, List.getElem_cons_succ, List.getElem_cons_zero]
      refine late_take (i := 5) (v := ?_) rfl (by kernel_rfl) (by kernel_rfl) (by kernel_rfl) (by kernel_rfl) (fun _ _ _ h => h) (Or.inl ⟨by rfl, ?_⟩) (by assumption) ?_
      rotate_left 1
      · (intro w' hSw; (try dsimp only at hSw); go_simp; try with_reducible rfl)
      try simp only [Act.put, List.setIfInBounds_toArray, List.set_cons_zero, List.set_cons_succ, List.getElem_toArray, List.getElem_cons_succ, List.getElem_cons_zero]
      refine late_take (i := 8) (v := ?_) rfl (by kernel_rfl) (by kernel_rfl) (by kernel_rfl) (by kernel_rfl) (fun _ _ _ h => h) (Or.inl ⟨by rfl, ?_⟩) (by assumption) ?_
      rotate_left 1
      · (intro w' hSw; (try dsimp only at hSw); go_simp; try with_reducible rfl)
      try simp only [Act.put, List.setIfInBounds_toArray, List.set_cons_zero, List.set_cons_succ, List.getElem_toArray, List.getElem_cons_succ, List.getElem_cons_zero]
      refine late_one (i := 3) (by kernel_rfl) rfl (fun K hK => ?_)
      go_simp
      (refine (below_acc 20 DR.out.cur (Only.refl _ _) (by omega) (by omega)).mono ?_; rintro e u1 ⟨m1, rfl, hm1, kk, oo⟩; have DR : Hid (D12 B a0 len cap b w u1 q s a n c ys) := DR.out.draw oo kk; have hS := HS.out _ DR.out)
      refine hK.out _ _ (by assumption) (fun _ => ?_)
      try simp only [Act.put, List.setIfInBounds_toArray, List.set_cons_zero, List.set_cons_succ, List.getElem_toArray, List.getElem_cons_succ, List.getElem_cons_zero]
      refine late_take (i := 4) (v := ?_) rfl (by kernel_rfl) (by kernel_rfl) (by kernel_rfl) (by kernel_rfl) (fun _ _ _ h => h) (Or.inl ⟨by rfl, ?_⟩) (by assumption) ?_
      rotate_left 1
      · (intro w' hSw; (try dsimp only at hSw); go_simp; try with_reducible rfl)
      try simp only [Act.put, List.setIfInBounds_toArray, List.set_cons_zero, List.set_cons_succ, List.getElem_toArray, List.getElem_cons_succ, List.getElem_cons_zero]
      refine late_one (i := 6) (by kernel_rfl) rfl (fun K hK => ?_)
      go_simp
      (refine (below_acc 60000000 DR.out.cur (Only.refl _ _) (by omega) (by omega)).mono ?_; rintro e u2 ⟨m2, rfl, hm2, kk, oo⟩; have DR : Hid (D12 B a0 len cap b w u2 q s a n c ys) := DR.out.draw oo kk; have hS := HS.out _ DR.out)
      refine hK.out _ _ (by assumption) (fun _ => ?_)
      try simp only [Act.put, List.setIfInBounds_toArray, List.set_cons_zero, List.set_cons_succ, List.getElem_toArray, List.getElem_cons_succ, List.getElem_cons_zero]
      refine late_take (i := 7) (v := ?_) rfl (by kernel_rfl) (by kernel_rfl) (by kernel_rfl) (by kernel_rfl) (fun _ _ _ h => h) (Or.inl ⟨by rfl, ?_⟩) (by assumption) ?_
      rotate_left 1
      · (intro w' hSw; (try dsimp only at hSw); go_simp; try with_reducible rfl)
      try simp only [Act.put, List.setIfInBounds_toArray, List.set_cons_zero, List.set_cons_succ, List.getElem_toArray, List.getElem_cons_succ, List.getElem_cons_zero]
      refine late_one (i := 9) (by kernel_rfl) rfl (fun K hK => ?_)
      go_simp
      (refine (below_acc 30000 DR.out.cur (Only.refl _ _) (by omega) (by omega)).mono ?_; rintro e u3 ⟨m3, rfl, hm3, kk, oo⟩; have DR : Hid (D12 B a0 len cap b w u3 q s a n c ys) := DR.out.draw oo kk; have hS := HS.out _ DR.out)
      refine hK.out _ _ (by assumption) (fun _ => ?_)
      try simp only [Act.put, List.setIfInBounds_toArray, List.set_cons_zero, List.set_cons_succ, List.getElem_toArray, List.getElem_cons_succ, List.getElem_cons_zero]
      refine late_one (i := 10) (by kernel_rfl) rfl (fun K hK => ?_)
      go_simp
      (have zq := DR.out.prb.z; have zr := DR.out.oq; refine (specObserve_fv DR.out.fv).mono ?_; rintro e vO ⟨zs, s', hzs, aO, nO, cO, rfl, fO, hbO⟩; have DR : Hid (D12 B a0 len cap b w vO q s a n c ys) := DR.out.next hbO; have hS := HS.out _ DR.out)
      refine hK.out _ _ (by assumption) (fun _ => ?_)
      try simp only [Act.put, List.setIfInBounds_toArray, List.set_cons_zero, List.set_cons_succ, List.getElem_toArray, List.getElem_cons_succ, List.getElem_cons_zero]
      have p0 : vO.cell? ⟨q, 0, none⟩ = some (.int .i64 s.sa) := DR.out.prb.c0
      have p1 : vO.cell? ⟨q, 1, none⟩ = some (.int .i64 s.cy) := DR.out.prb.c1
      have p2 : vO.cell? ⟨q, 2, none⟩ = some (.int .i64 s.sn) := DR.out.prb.c2
      have p3 : vO.cell? ⟨q, 3, none⟩ = some (.int .i64 s.tp) := DR.out.prb.c3
      have p4 : vO.cell? ⟨q, 4, none⟩ = some (.int .i64 s.sv) := DR.out.prb.c4
      have p5 : vO.cell? ⟨q, 5, none⟩ = some (.slice a n c) := DR.out.prb.c5
      have p6 : vO.cell? ⟨q, 6, none⟩ = some (.int .i64 s.mt) := DR.out.prb.c6
      have p7 : vO.cell? ⟨q, 7, none⟩ = some (.int .i64 s.ta) := DR.out.prb.c7
      have pz := DR.out.pf
      refine late_last (by kernel_rfl) rfl (by kernel_rfl) (fun K hK => ?_)
      go_simp
      refine hK.out _ _ ?_
      try simp only [Act.put, List.setIfInBounds_toArray, List.set_cons_zero, List.set_cons_succ, List.getElem_toArray, List.getElem_cons_succ, List.getElem_cons_zero]
      obtain ⟨y, ey, cs, far, fz, zy, hbel, hon⟩ := over8 (.int .i64 s'.sa) (.int .i64 s'.cy) (.int .i64 s'.sn) (.int .i64 s'.tp) (.int .i64 s'.sv) (.slice aO nO cO) (.int .i64 s'.mt) (.int .i64 s'.ta) (w := vO) (g := q) p0 p1 p2 p3 p4 p5 p6 p7
      rw [← ey]
      have DY : Hid (D12 B a0 len cap b w y q s' aO nO cO zs) := DR.out.turn hon ⟨by rw [zy]; exact DR.out.prb.z, cs 0 _ rfl, cs 1 _ rfl, cs 2 _ rfl, cs 3 _ rfl, cs 4 _ rfl, cs 5 _ rfl, cs 6 _ rfl, cs 7 _ rfl⟩ (fun i => (fz _ _).trans (pz i)) (fun g hg => by have := fO.own hg; omega) (fO.lower (by omega)) hzs
      clear ey cs far fz zy hbel hon pz hS DR fO hbO p0 p1 p2 p3 p4 p5 p6 p7
      go_wp2
      exact ⟨⟨_, j, s', aO, nO, cO, zs, rfl, by go_num, by omega, DY.out⟩, by simp [intOf]⟩
    | zero =>
      have p0 : wr.cell? ⟨q, 0, none⟩ = some (.int .i64 s.sa) := D.out.prb.c0
      have p1 : wr.cell? ⟨q, 1, none⟩ = some (.int .i64 s.cy) := D.out.prb.c1
      have p2 : wr.cell? ⟨q, 2, none⟩ = some (.int .i64 s.sn) := D.out.prb.c2
      have p3 : wr.cell? ⟨q, 3, none⟩ = some (.int .i64 s.tp) := D.out.prb.c3
      have p4 : wr.cell? ⟨q, 4, none⟩ = some (.int .i64 s.sv) := D.out.prb.c4
      have p5 : wr.cell? ⟨q, 5, none⟩ = some (.slice a n c) := D.out.prb.c5
      have p6 : wr.cell? ⟨q, 6, none⟩ = some (.int .i64 s.mt) := D.out.prb.c6
      have p7 : wr.cell? ⟨q, 7, none⟩ = some (.int .i64 s.ta) := D.out.prb.c7
      have r0 : wr.cell? ⟨w.heap.size, 0, none⟩ = some (.int .i64 0) := D.out.res.c0
      have r1 : wr.cell? ⟨w.heap.size, 1, none⟩ = some (.int .i64 0) := D.out.res.c1
      have r2 : wr.cell? ⟨w.heap.size, 2, none⟩ = some (.int .i64 0) := D.out.res.c2
      have r3 : wr.cell? ⟨w.heap.size, 3, none⟩ = some (.int .i64 0) := D.out.res.c3
      have r4 : wr.cell? ⟨w.heap.size, 4, none⟩ = some (.int .i64 0) := D.out.res.c4
      have r5 : wr.cell? ⟨w.heap.size, 5, none⟩ = some (.slice none 0 0) := D.out.res.c5
      have r6 : wr.cell? ⟨w.heap.size, 6, none⟩ = some (.int .i64 0) := D.out.res.c6
      have r7 : wr.cell? ⟨w.heap.size, 7, none⟩ = some (.int .i64 0) := D.out.res.c7
      have rz := D.out.rf
      go_wp2
      obtain ⟨y, ey, cs, fy, ky, oy⟩ := d12_out D.out
      rw [← ey]
      refine bodyPost_ret (results_one rfl _ _ _ [.int .i64 s.sa, .int .i64 s.cy, .int .i64 s.sn, .int .i64 s.tp, .int .i64 s.sv, .slice a n c, .int .i64 s.mt, .int .i64 s.ta] rfl cs Try.underlying53 rfl (by kernel_rfl)) rfl ?_
      exact ⟨s, a, n, c, ys, rfl, fy, D.out.le, ky, oy⟩
end Go.Proofs.Ytiibafphgjlffae
