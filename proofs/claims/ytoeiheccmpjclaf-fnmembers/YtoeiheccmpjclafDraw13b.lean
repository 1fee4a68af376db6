/- The draw of a Place. -/
import Derived.Test.YtoeiheccmpjclafDraw13
import Derived.Test.YtoeiheccmpjclafLate
import Derived.Deep.CutRange
import Derived.Deep.CutBlock
namespace Go.Proofs.Ytoeiheccmpjclaf
open Go.ChangeShapes Go.WideShapes Go.ChangeAt Go.RowKit
set_option maxRecDepth 100000
set_option linter.unusedVariables false
set_option linter.unusedSimpArgs false

theorem mTab_in (X : Nat) (h : X < 4) : ∃ y : Int, (#[Value.int IntKind.i64 (-1), Value.int IntKind.i64 1000000, Value.int IntKind.i64 1000001, Value.int IntKind.i64 3] : Array Value)[X]? = some (.int .i64 y) := by
  match X, h with
  | 0, _ => exact ⟨_, rfl⟩
  | 1, _ => exact ⟨_, rfl⟩
  | 2, _ => exact ⟨_, rfl⟩
  | 3, _ => exact ⟨_, rfl⟩
set_option maxHeartbeats 16000000 in
theorem l13Draw_acc {B : Nat} {a0 : Option Addr} {len cap b : Nat} {w : World} (k : Cur B a0 len cap b w) : Calls Try.prog 43 #[.pointer (some ⟨b, 0, none⟩)] w (P13 B a0 len cap b w) := by
  have hlt := k.hi
  obtain ⟨i0, hi, hz0, hz1, hz2⟩ := info_parts info_int
  go_enter Try.func43, Try.ntmps43
  go_upto_region 2 with (first
    | (go_at_call 70; refine (below_acc _ (k.alloc _) (Only.refl _ _) (by omega) (by omega)).mono ?_; rintro e w2 ⟨x, rfl, hx, k2, o2⟩; have rx : IntKind.i64.wrap (3000 + x) = 3000 + x := (by rw [IntKind.wrap_i64]; omega)))
  have d := d13_new (u := 37) (wd := 3000 + x) (fl := 0) hlt o2 k2
  obtain ⟨x4, hx4⟩ : ∃ y, y = w2.alloc (.cells #[.int .i64 (3000 + x), .int .i64 0, .slice none 0 0] 37) := ⟨_, rfl⟩
  obtain ⟨q, hq⟩ : ∃ g, w2.heap.size = g := ⟨_, rfl⟩
  rw [← hx4, hq] at d
  rw [← hx4]
  simp only [hq]
  have D : Hid (D13 B a0 len cap b w x4 q (3000 + x) 0 none 0 0 []) := d
  clear d hx4 hq k2 o2
  have p0 : x4.cell? ⟨q, 0, none⟩ = some (.int .i64 (3000 + x)) := D.out.plc.c0
  have rx1 : IntKind.i64.wrap (3000 + x + 1) = 3000 + x + 1 := by rw [IntKind.wrap_i64]; omega
  go_upto_region 3 with (first
    | (go_at_call 70; refine (below_acc _ D.out.cur (Only.refl _ _) (by omega) (by omega)).mono ?_; rintro e w5 ⟨m, rfl, hm, k5, o5⟩; have D : Hid (D13 B a0 len cap b w w5 q (3000 + x) 0 none 0 0 []) := D.out.draw o5 k5; have p0 : w5.cell? ⟨q, 0, none⟩ = some (.int .i64 (3000 + x)) := D.out.plc.c0; have p1 : w5.cell? ⟨q, 1, none⟩ = some (.int .i64 0) := D.out.plc.c1; have pz := D.out.pf))
  have D : Hid (D13 B a0 len cap b w (w5.setCell ⟨q, 1, none⟩ (.int .i64 m)) q (3000 + x) m none 0 0 []) := D.out.set_fl m
  obtain ⟨x6, hx6⟩ : ∃ y, y = w5.setCell ⟨q, 1, none⟩ (.int .i64 m) := ⟨_, rfl⟩
  rw [← hx6] at D ⊢
  clear hx6 p0 p1 pz
  go_wp2_with (first
    | (go_at_call 70; refine (below_acc _ D.out.cur (Only.refl _ _) (by omega) (by omega)).mono ?_; rintro e w7 ⟨m7, rfl, hm7, k7, o7⟩; have D : Hid (D13 B a0 len cap b w w7 q (3000 + x) m none 0 0 []) := D.out.draw o7 k7))
  go_loopw [4] (fun i wr => ∃ (j : Nat) (wd fl : Int) (a : Option Addr) (n c : Nat) (ys : List Int), i = .int .i64 j ∧ j ≤ 8 ∧ ys.length ≤ 50 ∧ D13 B a0 len cap b w wr q wd fl a n c ys) (fun i _ => (intOf i).toNat)
  case atStart =>
    exact ⟨m7.toNat, _, _, none, 0, 0, [], by rw [Int.toNat_of_nonneg hm7.1], by omega, by decide, D.out⟩
  case round =>
    clear D
    obtain ⟨j, wd, fl, a, n, c, ys, rfl, hj, hy50, d⟩ := hrel
    have D : Hid (D13 B a0 len cap b w wr q wd fl a n c ys) := d
    clear d
    cases j with
    | succ j =>
      have hj0 : (0 : Int) < (j : Int) + 1 := by omega
      have hjw : IntKind.i64.wrap (j : Int) = (j : Int) := by rw [IntKind.wrap_i64]; omega
      go_upto_region 6 with (fail)
      have HS : Hid (∀ w', D13 B a0 len cap b w w' q wd fl a n c ys → (fun w' => w'.cell? ⟨q, 0, none⟩ = some (.int .i64 wd) ∧ w'.cell? ⟨q, 1, none⟩ = some (.int .i64 fl) ∧ w'.cell? ⟨q, 2, none⟩ = some (.slice a n c)) w') := fun w' d => d.cells
      have DR : Hid (D13 B a0 len cap b w wr.drew q wd fl a n c ys) := D.out.next (Below.refl _ _).drew
      have hS := HS.out _ DR.out
      refine wp_region_held_drew (S := fun w' => w'.cell? ⟨q, 0, none⟩ = some (.int .i64 wd) ∧ w'.cell? ⟨q, 1, none⟩ = some (.int .i64 fl) ∧ w'.cell? ⟨q, 2, none⟩ = some (.slice a n c)) (by kernel_rfl) hS (fun hS => ?_)
      refine wpAnyH_take (i := 0) (v := ?_) rfl (by kernel_rfl) (by kernel_rfl) (by kernel_rfl) (fun _ _ _ h => h) (Or.inl ⟨by rfl, ?_⟩) (by assumption) ?_
      rotate_left 1
      · (intro w' hSw; (try dsimp only at hSw); go_simp; try with_reducible rfl)
      try simp only [Act.put, List.setIfInBounds_toArray, List.set_cons_zero, List.set_cons_succ, List.getElem_toArray, List.getElem_cons_succ, List.getElem_cons_zero]
      refine wpAnyH_take (i := 1) (v := ?_) rfl (by kernel_rfl) (by kernel_rfl) (by kernel_rfl) (fun _ _ _ h => h) (Or.inl ⟨by rfl, ?_⟩) (by assumption) ?_
      rotate_left 1
      · (intro w' hSw; (try dsimp only at hSw); go_simp; try with_reducible rfl)
      try simp only [Act.put, List.setIfInBounds_toArray, List.set_cons_zero, List.set_cons_succ, List.getElem_toArray, List.getElem_cons_succ, List.getElem_cons_zero]
      refine wpAnyH_ready (rs := [2, 7]) (by kernel_rfl) (by simp) (AllReadyH.cons rfl (fun K hK => ?_) (AllReadyH.cons rfl (fun K hK => ?_) AllReadyH.nil))
      · go_simp
        (refine (below_acc 12 DR.out.cur (Only.refl _ _) (by omega) (by omega)).mono ?_; rintro e u1 ⟨m1, rfl, hm1, kk, oo⟩; have DR : Hid (D13 B a0 len cap b w u1 q wd fl a n c ys) := DR.out.draw oo kk; have hS := HS.out _ DR.out)
        refine hK.out _ _ (by assumption) (fun _ => ?_)
        try simp only [Act.put, List.setIfInBounds_toArray, List.set_cons_zero, List.set_cons_succ, List.getElem_toArray, List.getElem_cons_succ, List.getElem_cons_zero]
        refine wpAnyH_ready (rs := [3, 7]) (by kernel_rfl) (by simp) (AllReadyH.cons rfl (fun K hK => ?_) (AllReadyH.cons rfl (fun K hK => ?_) AllReadyH.nil))
        · go_simp
          (have zq := DR.out.plc.z; have zr := DR.out.oq; refine (DR.out.join _).mono ?_; rintro e vO ⟨zs, zd, zf, zb, hzs, aO, nO, cO, rfl, fO, hbO⟩; have DR : Hid (D13 B a0 len cap b w vO q wd fl a n c ys) := DR.out.next hbO; have FO : Hid (vO.ownsRow u1.heap.size 2 1 (.slice aO nO cO) zs.length (flatI zs)) := fO; clear fO; have hS := HS.out _ DR.out)
          refine hK.out _ _ (by assumption) (fun _ => ?_)
          try simp only [Act.put, List.setIfInBounds_toArray, List.set_cons_zero, List.set_cons_succ, List.getElem_toArray, List.getElem_cons_succ, List.getElem_cons_zero]
          refine wpAnyH_take (i := 4) (v := ?_) rfl (by kernel_rfl) (by kernel_rfl) (by kernel_rfl) (fun _ _ _ h => h) (Or.inl ⟨by rfl, ?_⟩) (by assumption) ?_
          rotate_left 1
          · (intro w' hSw; (try dsimp only at hSw); go_simp; try with_reducible rfl)
          try simp only [Act.put, List.setIfInBounds_toArray, List.set_cons_zero, List.set_cons_succ, List.getElem_toArray, List.getElem_cons_succ, List.getElem_cons_zero]
          refine wpAnyH_take (i := 5) (v := ?_) rfl (by kernel_rfl) (by kernel_rfl) (by kernel_rfl) (fun _ _ _ h => h) (Or.inl ⟨by rfl, ?_⟩) (by assumption) ?_
          rotate_left 1
          · (intro w' hSw; (try dsimp only at hSw); go_simp; try with_reducible rfl)
          try simp only [Act.put, List.setIfInBounds_toArray, List.set_cons_zero, List.set_cons_succ, List.getElem_toArray, List.getElem_cons_succ, List.getElem_cons_zero]
          refine wpAnyH_take (i := 6) (v := ?_) rfl (by kernel_rfl) (by kernel_rfl) (by kernel_rfl) (fun _ _ _ h => h) (Or.inl ⟨by rfl, ?_⟩) (by assumption) ?_
          rotate_left 1
          · (intro w' hSw; (try dsimp only at hSw); go_simp; try with_reducible rfl)
          try simp only [Act.put, List.setIfInBounds_toArray, List.set_cons_zero, List.set_cons_succ, List.getElem_toArray, List.getElem_cons_succ, List.getElem_cons_zero]
          refine wpAnyH_ready (rs := [7]) (by kernel_rfl) (by simp) (AllReadyH.cons rfl (fun K hK => ?_) AllReadyH.nil)
          go_simp
          refine hK.out _ _ (HS.out _ (DR.out.next (new_below _ _))) (fun hS => ?_)
          try simp only [Act.put, List.setIfInBounds_toArray, List.set_cons_zero, List.set_cons_succ, List.getElem_toArray, List.getElem_cons_succ, List.getElem_cons_zero]
          refine wpAnyH_ready (rs := [8]) (by kernel_rfl) (by simp) (AllReadyH.cons rfl (fun K hK => ?_) AllReadyH.nil)
          go_simp
          refine hK.out _ _ (HS.out _ (DR.out.next (new_below _ _))) (fun hS => ?_)
          try simp only [Act.put, List.setIfInBounds_toArray, List.set_cons_zero, List.set_cons_succ, List.getElem_toArray, List.getElem_cons_succ, List.getElem_cons_zero]
          refine wpAnyH_take (i := 9) (v := ?_) rfl (by kernel_rfl) (by kernel_rfl) (by kernel_rfl) (fun _ _ _ h => h) (Or.inl ⟨by rfl, ?_⟩) (by assumption) ?_
          rotate_left 1
          · (intro w' hSw; (try dsimp only at hSw); go_simp; try with_reducible rfl)
          try simp only [Act.put, List.setIfInBounds_toArray, List.set_cons_zero, List.set_cons_succ, List.getElem_toArray, List.getElem_cons_succ, List.getElem_cons_zero]
          refine wpAnyH_done (by kernel_rfl) ?_ _
          obtain ⟨yF, hyF⟩ : ∃ y, y = vO.alloc (.cells #[.int .i64 zd, .int .i64 zf, .slice aO nO cO] 37) := ⟨_, rfl⟩
          obtain ⟨g5, hg5⟩ : ∃ g, g = vO.heap.size := ⟨_, rfl⟩
          rw [← hyF, ← hg5]
          have hbF : Below vO.heap.size vO yF := by rw [hyF]; exact new_below _ _
          have XF : Hid (Qc yF g5 zd zf (.slice aO nO cO)) := by rw [hyF, hg5]; exact qc_new _ zd zf _ _
          clear hyF hg5
          have DF : Hid (D13 B a0 len cap b w yF q wd fl a n c ys) := DR.out.next hbF
          have OF : Hid (yF.ownsRow (q + 1) 2 1 (.slice aO nO cO) zs.length (flatI zs)) := row_lowI (row_next FO.out hbF) (by omega)
          clear DR FO hbF hS
          have x0 := XF.out.c0
          have x1 := XF.out.c1
          have x2 := XF.out.c2
          have p0 : yF.cell? ⟨q, 0, none⟩ = some (.int .i64 wd) := DF.out.plc.c0
          have p1 : yF.cell? ⟨q, 1, none⟩ = some (.int .i64 fl) := DF.out.plc.c1
          have p2 : yF.cell? ⟨q, 2, none⟩ = some (.slice a n c) := DF.out.plc.c2
          have pz := DF.out.pf
          cases zb
          · go_wp2
            exact ⟨⟨j, wd, fl, a, n, c, ys, by go_num, by omega, hy50, DF.out⟩, by simp [intOf]⟩
          · go_wp2
            obtain ⟨y, ey, cs, fz, zy, hbel, hon⟩ := over3 (.int .i64 zd) (.int .i64 zf) (.slice aO nO cO) (w := yF) (g := q) p0 p1 p2
            rw [← ey]
            have DY : Hid (D13 B a0 len cap b w y q zd zf aO nO cO zs) := DF.out.turn hon ⟨by rw [zy]; exact DF.out.plc.z, cs 0 _ rfl, cs 1 _ rfl, cs 2 _ rfl⟩ (fun i => (fz _ _).trans (pz i)) OF.out (by omega)
            clear ey cs fz zy hbel hon pz DF OF XF x0 x1 x2 p0 p1 p2
            go_wp2
            exact ⟨⟨j, zd, zf, aO, nO, cO, zs, by go_num, by omega, hzs, DY.out⟩, by simp [intOf]⟩
        · go_simp
          obtain ⟨g5, hg5⟩ : ∃ g, g = u1.heap.size := ⟨_, rfl⟩
          obtain ⟨u5, hu5⟩ : ∃ u, u = u1.alloc (.cells #[.int .i64 0, .int .i64 0, .slice none 0 0] 37) := ⟨_, rfl⟩
          rw [← hu5, ← hg5]
          have hb5 : Below u1.heap.size u1 u5 := by rw [hu5]; exact new_below _ _
          have XV : Hid (Qc u5 g5 0 0 (.slice none 0 0)) := by rw [hu5, hg5]; exact qc_new _ 0 0 _ _
          have xf : ∀ i : Nat, u5.frozen? ⟨g5, i, none⟩ = false := fun i => by rw [hu5, hg5]; go_simp
          have g5z : g5 < u5.heap.size := XV.out.z
          have g5y : u1.heap.size ≤ g5 := by omega
          have g5q : q < g5 := by have := DR.out.plc.z; omega
          have HOB : Hid (∀ k, (Value.slice a n c).ownBlock = some k → k ≠ g5) := fun k e => by have := (DR.out.own.lt k e).2; omega
          have DR : Hid (D13 B a0 len cap b w u5 q wd fl a n c ys) := DR.out.next hb5
          clear hu5 hg5
          refine hK.out _ _ (HS.out _ DR.out) (fun hS => ?_)
          try simp only [Act.put, List.setIfInBounds_toArray, List.set_cons_zero, List.set_cons_succ, List.getElem_toArray, List.getElem_cons_succ, List.getElem_cons_zero]
          refine wpAnyH_ready (rs := [3]) (by kernel_rfl) (by simp) (AllReadyH.cons rfl (fun K hK => ?_) AllReadyH.nil)
          go_simp
          (have zq := DR.out.plc.z; have zr := DR.out.oq; refine (DR.out.join _).mono ?_; rintro e vO ⟨zs, zd, zf, zb, hzs, aO, nO, cO, rfl, fO, hbO⟩; have DR : Hid (D13 B a0 len cap b w vO q wd fl a n c ys) := DR.out.next hbO; have FO : Hid (vO.ownsRow u5.heap.size 2 1 (.slice aO nO cO) zs.length (flatI zs)) := fO; clear fO; have hS := HS.out _ DR.out; have XV : Hid (Qc vO g5 0 0 (.slice none 0 0)) := XV.out.next hbO; have xf : ∀ i : Nat, vO.frozen? ⟨g5, i, none⟩ = false := (fun i => (hbO.frozen (by exact g5z)).trans (xf i)); have g5z : g5 < vO.heap.size := Nat.lt_of_lt_of_le g5z hbO.size)
          refine hK.out _ _ (by assumption) (fun _ => ?_)
          try simp only [Act.put, List.setIfInBounds_toArray, List.set_cons_zero, List.set_cons_succ, List.getElem_toArray, List.getElem_cons_succ, List.getElem_cons_zero]
          refine wpAnyH_take (i := 4) (v := ?_) rfl (by kernel_rfl) (by kernel_rfl) (by kernel_rfl) (fun _ _ _ h => h) (Or.inl ⟨by rfl, ?_⟩) (by assumption) ?_
          rotate_left 1
          · (intro w' hSw; (try dsimp only at hSw); go_simp; try with_reducible rfl)
          try simp only [Act.put, List.setIfInBounds_toArray, List.set_cons_zero, List.set_cons_succ, List.getElem_toArray, List.getElem_cons_succ, List.getElem_cons_zero]
          refine wpAnyH_take (i := 5) (v := ?_) rfl (by kernel_rfl) (by kernel_rfl) (by kernel_rfl) (fun _ _ _ h => h) (Or.inl ⟨by rfl, ?_⟩) (by assumption) ?_
          rotate_left 1
          · (intro w' hSw; (try dsimp only at hSw); go_simp; try with_reducible rfl)
          try simp only [Act.put, List.setIfInBounds_toArray, List.set_cons_zero, List.set_cons_succ, List.getElem_toArray, List.getElem_cons_succ, List.getElem_cons_zero]
          refine wpAnyH_take (i := 6) (v := ?_) rfl (by kernel_rfl) (by kernel_rfl) (by kernel_rfl) (fun _ _ _ h => h) (Or.inl ⟨by rfl, ?_⟩) (by assumption) ?_
          rotate_left 1
          · (intro w' hSw; (try dsimp only at hSw); go_simp; try with_reducible rfl)
          try simp only [Act.put, List.setIfInBounds_toArray, List.set_cons_zero, List.set_cons_succ, List.getElem_toArray, List.getElem_cons_succ, List.getElem_cons_zero]
          have xc0 := XV.out.c0
          have xc1 := XV.out.c1
          have xc2 := XV.out.c2
          have hFg : ∀ k, (Value.slice aO nO cO).ownBlock = some k → k ≠ g5 := fun k e => by have := (FO.out.lt k e).1; omega
          refine wpAnyH_ready (rs := [8]) (by kernel_rfl) (by simp) (AllReadyH.cons rfl (fun K hK => ?_) AllReadyH.nil)
          go_simp
          obtain ⟨yF, hyF, cs, fz, zy, hbel, hon⟩ := over3 (.int .i64 zd) (.int .i64 zf) (.slice aO nO cO) (w := vO) (g := g5) xc0 xc1 xc2
          rw [← hyF]
          have DF : Hid (D13 B a0 len cap b w yF q wd fl a n c ys) := DR.out.far hon g5q HOB.out
          have XF : Hid (Qc yF g5 zd zf (.slice aO nO cO)) := ⟨by rw [zy]; exact g5z, cs 0 _ rfl, cs 1 _ rfl, cs 2 _ rfl⟩
          have OF : Hid (yF.ownsRow (q + 1) 2 1 (.slice aO nO cO) zs.length (flatI zs)) := by
            have h := FO.out.kept (row := some g5) ⟨hon.os, hon.tape, hon.output, hon.size, fun k hk hn => hon.block k hk (fun e => hn (by rw [e]))⟩ (by
              cases hob : (Value.slice aO nO cO).ownBlock with
              | none => exact .inl rfl
              | some k => exact .inr (fun e => hFg k hob (Option.some.inj e)))
            exact row_lowI h (by omega)
          clear hyF cs fz zy hbel hon xc0 xc1 xc2 hFg
          refine hK.out _ _ (HS.out _ DF.out) (fun hS => ?_)
          try simp only [Act.put, List.setIfInBounds_toArray, List.set_cons_zero, List.set_cons_succ, List.getElem_toArray, List.getElem_cons_succ, List.getElem_cons_zero]
          refine wpAnyH_take (i := 9) (v := ?_) rfl (by kernel_rfl) (by kernel_rfl) (by kernel_rfl) (fun _ _ _ h => h) (Or.inl ⟨by rfl, ?_⟩) (by assumption) ?_
          rotate_left 1
          · (intro w' hSw; (try dsimp only at hSw); go_simp; try with_reducible rfl)
          try simp only [Act.put, List.setIfInBounds_toArray, List.set_cons_zero, List.set_cons_succ, List.getElem_toArray, List.getElem_cons_succ, List.getElem_cons_zero]
          refine wpAnyH_done (by kernel_rfl) ?_ _
          clear DR FO XV xf hS
          have x0 := XF.out.c0
          have x1 := XF.out.c1
          have x2 := XF.out.c2
          have p0 : yF.cell? ⟨q, 0, none⟩ = some (.int .i64 wd) := DF.out.plc.c0
          have p1 : yF.cell? ⟨q, 1, none⟩ = some (.int .i64 fl) := DF.out.plc.c1
          have p2 : yF.cell? ⟨q, 2, none⟩ = some (.slice a n c) := DF.out.plc.c2
          have pz := DF.out.pf
          cases zb
          · go_wp2
            exact ⟨⟨j, wd, fl, a, n, c, ys, by go_num, by omega, hy50, DF.out⟩, by simp [intOf]⟩
          · go_wp2
            obtain ⟨y, ey, cs, fz, zy, hbel, hon⟩ := over3 (.int .i64 zd) (.int .i64 zf) (.slice aO nO cO) (w := yF) (g := q) p0 p1 p2
            rw [← ey]
            have DY : Hid (D13 B a0 len cap b w y q zd zf aO nO cO zs) := DF.out.turn hon ⟨by rw [zy]; exact DF.out.plc.z, cs 0 _ rfl, cs 1 _ rfl, cs 2 _ rfl⟩ (fun i => (fz _ _).trans (pz i)) OF.out (by omega)
            clear ey cs fz zy hbel hon pz DF OF XF x0 x1 x2 p0 p1 p2
            go_wp2
            exact ⟨⟨j, zd, zf, aO, nO, cO, zs, by go_num, by omega, hzs, DY.out⟩, by simp [intOf]⟩
      · go_simp
        obtain ⟨g5, hg5⟩ : ∃ g, g = wr.heap.size := ⟨_, rfl⟩
        obtain ⟨u5, hu5⟩ : ∃ u, u = (wr.alloc (.cells #[.int .i64 0, .int .i64 0, .slice none 0 0] 37)).drew := ⟨_, rfl⟩
        rw [← hu5, ← hg5]
        have hb5 : Below wr.heap.size wr u5 := by rw [hu5]; exact (new_below _ _).drew
        have XV : Hid (Qc u5 g5 0 0 (.slice none 0 0)) := by rw [hu5, hg5]; exact (qc_new _ 0 0 _ _).next (Below.refl _ _).drew
        have xf : ∀ i : Nat, u5.frozen? ⟨g5, i, none⟩ = false := fun i => by rw [hu5, hg5]; go_simp
        have g5z : g5 < u5.heap.size := XV.out.z
        have g5y : wr.heap.size ≤ g5 := by omega
        have g5q : q < g5 := by have := D.out.plc.z; omega
        have HOB : Hid (∀ k, (Value.slice a n c).ownBlock = some k → k ≠ g5) := fun k e => by have := (D.out.own.lt k e).2; omega
        have DR : Hid (D13 B a0 len cap b w u5 q wd fl a n c ys) := D.out.next hb5
        clear hu5 hg5
        refine hK.out _ _ (HS.out _ DR.out) (fun hS => ?_)
        try simp only [Act.put, List.setIfInBounds_toArray, List.set_cons_zero, List.set_cons_succ, List.getElem_toArray, List.getElem_cons_succ, List.getElem_cons_zero]
        refine wpAnyH_ready (rs := [2]) (by kernel_rfl) (by simp) (AllReadyH.cons rfl (fun K hK => ?_) AllReadyH.nil)
        go_simp
        (refine (below_acc 12 DR.out.cur (Only.refl _ _) (by omega) (by omega)).mono ?_; rintro e u1 ⟨m1, rfl, hm1, kk, oo⟩; have DR : Hid (D13 B a0 len cap b w u1 q wd fl a n c ys) := DR.out.draw oo kk; have hS := HS.out _ DR.out; have XV : Hid (Qc u1 g5 0 0 (.slice none 0 0)) := XV.out.onlyO (OnlyO.of_only oo) (fun e => (by have hbl := DR.out.lt; have hbq := DR.out.oq; injection e with e; omega)); have xf : ∀ i : Nat, u1.frozen? ⟨g5, i, none⟩ = false := (fun i => (oo.frozen (by exact g5z) (by have hbl := DR.out.lt; have hbq := DR.out.oq; show g5 ≠ b; omega)).trans (xf i)); have g5z : g5 < u1.heap.size := Nat.lt_of_lt_of_le g5z oo.size)
        refine hK.out _ _ (by assumption) (fun _ => ?_)
        try simp only [Act.put, List.setIfInBounds_toArray, List.set_cons_zero, List.set_cons_succ, List.getElem_toArray, List.getElem_cons_succ, List.getElem_cons_zero]
        refine wpAnyH_ready (rs := [3]) (by kernel_rfl) (by simp) (AllReadyH.cons rfl (fun K hK => ?_) AllReadyH.nil)
        go_simp
        (have zq := DR.out.plc.z; have zr := DR.out.oq; refine (DR.out.join _).mono ?_; rintro e vO ⟨zs, zd, zf, zb, hzs, aO, nO, cO, rfl, fO, hbO⟩; have DR : Hid (D13 B a0 len cap b w vO q wd fl a n c ys) := DR.out.next hbO; have FO : Hid (vO.ownsRow u1.heap.size 2 1 (.slice aO nO cO) zs.length (flatI zs)) := fO; clear fO; have hS := HS.out _ DR.out; have XV : Hid (Qc vO g5 0 0 (.slice none 0 0)) := XV.out.next hbO; have xf : ∀ i : Nat, vO.frozen? ⟨g5, i, none⟩ = false := (fun i => (hbO.frozen (by exact g5z)).trans (xf i)); have g5z : g5 < vO.heap.size := Nat.lt_of_lt_of_le g5z hbO.size)
        refine hK.out _ _ (by assumption) (fun _ => ?_)
        try simp only [Act.put, List.setIfInBounds_toArray, List.set_cons_zero, List.set_cons_succ, List.getElem_toArray, List.getElem_cons_succ, List.getElem_cons_zero]
        refine wpAnyH_take (i := 4) (v := ?_) rfl (by kernel_rfl) (by kernel_rfl) (by kernel_rfl) (fun _ _ _ h => h) (Or.inl ⟨by rfl, ?_⟩) (by assumption) ?_
        rotate_left 1
        · (intro w' hSw; (try dsimp only at hSw); go_simp; try with_reducible rfl)
        try simp only [Act.put, List.setIfInBounds_toArray, List.set_cons_zero, List.set_cons_succ, List.getElem_toArray, List.getElem_cons_succ, List.getElem_cons_zero]
        refine wpAnyH_take (i := 5) (v := ?_) rfl (by kernel_rfl) (by kernel_rfl) (by kernel_rfl) (fun _ _ _ h => h) (Or.inl ⟨by rfl, ?_⟩) (by assumption) ?_
        rotate_left 1
        · (intro w' hSw; (try dsimp only at hSw); go_simp; try with_reducible rfl)
        try simp only [Act.put, List.setIfInBounds_toArray, List.set_cons_zero, List.set_cons_succ, List.getElem_toArray, List.getElem_cons_succ, List.getElem_cons_zero]
        refine wpAnyH_take (i := 6) (v := ?_) rfl (by kernel_rfl) (by kernel_rfl) (by kernel_rfl) (fun _ _ _ h => h) (Or.inl ⟨by rfl, ?_⟩) (by assumption) ?_
        rotate_left 1
        · (intro w' hSw; (try dsimp only at hSw); go_simp; try with_reducible rfl)
        try simp only [Act.put, List.setIfInBounds_toArray, List.set_cons_zero, List.set_cons_succ, List.getElem_toArray, List.getElem_cons_succ, List.getElem_cons_zero]
        have xc0 := XV.out.c0
        have xc1 := XV.out.c1
        have xc2 := XV.out.c2
        have hFg : ∀ k, (Value.slice aO nO cO).ownBlock = some k → k ≠ g5 := fun k e => by have := (FO.out.lt k e).1; omega
        refine wpAnyH_ready (rs := [8]) (by kernel_rfl) (by simp) (AllReadyH.cons rfl (fun K hK => ?_) AllReadyH.nil)
        go_simp
        obtain ⟨yF, hyF, cs, fz, zy, hbel, hon⟩ := over3 (.int .i64 zd) (.int .i64 zf) (.slice aO nO cO) (w := vO) (g := g5) xc0 xc1 xc2
        rw [← hyF]
        have DF : Hid (D13 B a0 len cap b w yF q wd fl a n c ys) := DR.out.far hon g5q HOB.out
        have XF : Hid (Qc yF g5 zd zf (.slice aO nO cO)) := ⟨by rw [zy]; exact g5z, cs 0 _ rfl, cs 1 _ rfl, cs 2 _ rfl⟩
        have OF : Hid (yF.ownsRow (q + 1) 2 1 (.slice aO nO cO) zs.length (flatI zs)) := by
          have h := FO.out.kept (row := some g5) ⟨hon.os, hon.tape, hon.output, hon.size, fun k hk hn => hon.block k hk (fun e => hn (by rw [e]))⟩ (by
            cases hob : (Value.slice aO nO cO).ownBlock with
            | none => exact .inl rfl
            | some k => exact .inr (fun e => hFg k hob (Option.some.inj e)))
          exact row_lowI h (by omega)
        clear hyF cs fz zy hbel hon xc0 xc1 xc2 hFg
        refine hK.out _ _ (HS.out _ DF.out) (fun hS => ?_)
        try simp only [Act.put, List.setIfInBounds_toArray, List.set_cons_zero, List.set_cons_succ, List.getElem_toArray, List.getElem_cons_succ, List.getElem_cons_zero]
        refine wpAnyH_take (i := 9) (v := ?_) rfl (by kernel_rfl) (by kernel_rfl) (by kernel_rfl) (fun _ _ _ h => h) (Or.inl ⟨by rfl, ?_⟩) (by assumption) ?_
        rotate_left 1
        · (intro w' hSw; (try dsimp only at hSw); go_simp; try with_reducible rfl)
        try simp only [Act.put, List.setIfInBounds_toArray, List.set_cons_zero, List.set_cons_succ, List.getElem_toArray, List.getElem_cons_succ, List.getElem_cons_zero]
        refine wpAnyH_done (by kernel_rfl) ?_ _
        clear DR FO XV xf hS
        have x0 := XF.out.c0
        have x1 := XF.out.c1
        have x2 := XF.out.c2
        have p0 : yF.cell? ⟨q, 0, none⟩ = some (.int .i64 wd) := DF.out.plc.c0
        have p1 : yF.cell? ⟨q, 1, none⟩ = some (.int .i64 fl) := DF.out.plc.c1
        have p2 : yF.cell? ⟨q, 2, none⟩ = some (.slice a n c) := DF.out.plc.c2
        have pz := DF.out.pf
        cases zb
        · go_wp2
          exact ⟨⟨j, wd, fl, a, n, c, ys, by go_num, by omega, hy50, DF.out⟩, by simp [intOf]⟩
        · go_wp2
          obtain ⟨y, ey, cs, fz, zy, hbel, hon⟩ := over3 (.int .i64 zd) (.int .i64 zf) (.slice aO nO cO) (w := yF) (g := q) p0 p1 p2
          rw [← ey]
          have DY : Hid (D13 B a0 len cap b w y q zd zf aO nO cO zs) := DF.out.turn hon ⟨by rw [zy]; exact DF.out.plc.z, cs 0 _ rfl, cs 1 _ rfl, cs 2 _ rfl⟩ (fun i => (fz _ _).trans (pz i)) OF.out (by omega)
          clear ey cs fz zy hbel hon pz DF OF XF x0 x1 x2 p0 p1 p2
          go_wp2
          exact ⟨⟨j, zd, zf, aO, nO, cO, zs, by go_num, by omega, hzs, DY.out⟩, by simp [intOf]⟩
    | zero =>
      go_upto_if 34 with (first
        | (go_at_call 68; refine (once_acc _ D.out.cur (Only.refl _ _) (by omega) (by omega)).mono ?_; rintro e w4 ⟨f4, rfl, k4, o4⟩; have D : Hid (D13 B a0 len cap b w w4 q wd fl a n c ys) := D.out.draw o4 k4))
      go_cut [] from 1 to 0 (fun wd' => ∃ wd fl a n c ys, D13 B a0 len cap b w wd' q wd fl a n c ys)
      case first =>
        cases f4
        · go_wp2
          go_meet
          exact ⟨_, _, _, _, _, _, D.out⟩
        · go_upto_region 11 with (first
            | (go_at_call 70; refine (below_acc _ D.out.cur (Only.refl _ _) (by omega) (by omega)).mono ?_; rintro e w5' ⟨x5, rfl, hx5, k5', o5'⟩; have D5 : Hid (D13 B a0 len cap b w w5' q wd fl a n c ys) := D.out.draw o5' k5'))
          have hx5' : x5 = 0 ∨ x5 = 1 ∨ x5 = 2 ∨ x5 = 3 := by omega
          clear hx5 k5' o5' D
          rcases hx5' with rfl | rfl | rfl | rfl
          · go_wp2_with (first
              | (go_at_call 54; refine (drawWindow_acc D5.out.cur (Only.refl _ _)).mono ?_; rintro e w6 ⟨v, rfl, hv, k6, o6⟩; have D6 : Hid (D13 B a0 len cap b w w6 q wd fl a n c ys) := D5.out.draw o6 k6; have p0 : w6.cell? ⟨q, 0, none⟩ = some (.int .i64 wd) := D6.out.plc.c0; have p1 : w6.cell? ⟨q, 1, none⟩ = some (.int .i64 fl) := D6.out.plc.c1; have p2 : w6.cell? ⟨q, 2, none⟩ = some (.slice a n c) := D6.out.plc.c2; have pz := D6.out.pf; have pq := D6.out.plc.z))
            go_meet
            exact ⟨_, _, _, _, _, _, D6.out.set_wd v⟩
          · go_wp2_with (first
              | (go_at_call 54; refine (drawWindow_acc D5.out.cur (Only.refl _ _)).mono ?_; rintro e w6 ⟨v, rfl, hv, k6, o6⟩; have D6 : Hid (D13 B a0 len cap b w w6 q wd fl a n c ys) := D5.out.draw o6 k6; have p0 : w6.cell? ⟨q, 0, none⟩ = some (.int .i64 wd) := D6.out.plc.c0; have p1 : w6.cell? ⟨q, 1, none⟩ = some (.int .i64 fl) := D6.out.plc.c1; have p2 : w6.cell? ⟨q, 2, none⟩ = some (.slice a n c) := D6.out.plc.c2; have pz := D6.out.pf; have pq := D6.out.plc.z))
            go_meet
            exact ⟨_, _, _, _, _, _, D6.out.set_fl v⟩
          · go_upto_region 16 with (fail)
            have p2 : w5'.cell? ⟨q, 2, none⟩ = some (.slice a n c) := D5.out.plc.c2
            refine region_late (S := fun w' => w'.cell? ⟨q, 2, none⟩ = some (.slice a n c)) 10 (by kernel_rfl) (by go_simp) (fun hS => ?_)
            refine late_take (i := 0) (v := ?_) rfl (by kernel_rfl) (by kernel_rfl) (by kernel_rfl) (by kernel_rfl) (fun _ _ _ h => h) (Or.inl ⟨by rfl, ?_⟩) (by assumption) ?_
            rotate_left 1
            · (intro w' hSw; (try dsimp only at hSw); go_simp; try with_reducible rfl)
            try simp only [Act.put, List.setIfInBounds_toArray, List.set_cons_zero, List.set_cons_succ, List.getElem_toArray, List.getElem_cons_succ, List.getElem_cons_zero]
            refine late_take (i := 1) (v := ?_) rfl (by kernel_rfl) (by kernel_rfl) (by kernel_rfl) (by kernel_rfl) (fun _ _ _ h => h) (Or.inl ⟨by rfl, ?_⟩) (by assumption) ?_
            rotate_left 1
            · (intro w' hSw; (try dsimp only at hSw); go_simp; try with_reducible rfl)
            try simp only [Act.put, List.setIfInBounds_toArray, List.set_cons_zero, List.set_cons_succ, List.getElem_toArray, List.getElem_cons_succ, List.getElem_cons_zero]
            refine late_take (i := 3) (v := ?_) rfl (by kernel_rfl) (by kernel_rfl) (by kernel_rfl) (by kernel_rfl) (fun _ _ _ h => h) (Or.inl ⟨by rfl, ?_⟩) (by assumption) ?_
            rotate_left 1
            · (intro w' hSw; (try dsimp only at hSw); go_simp; try with_reducible rfl)
            try simp only [Act.put, List.setIfInBounds_toArray, List.set_cons_zero, List.set_cons_succ, List.getElem_toArray, List.getElem_cons_succ, List.getElem_cons_zero]
            refine late_two (i := 2) (j := 4) (by kernel_rfl) rfl rfl (fun K hK => ?_) (fun K hK => ?_)
            · go_simp
              have DA : Hid (D13 B a0 len cap b w (w5'.drew.alloc (.cells #[.int .i64 (-1), .int .i64 1000000, .int .i64 1000001, .int .i64 3] 2)) q wd fl a n c ys) := (D5.out.next (Below.refl _ _).drew).next (new_below _ _)
              refine hK.out _ _ (DA.out.plc.c2) (fun hS => ?_)
              try simp only [Act.put, List.setIfInBounds_toArray, List.set_cons_zero, List.set_cons_succ, List.getElem_toArray, List.getElem_cons_succ, List.getElem_cons_zero]
              refine late_one (i := 4) (by kernel_rfl) rfl (fun K hK => ?_)
              go_simp
              (refine (below_acc 4 DA.out.cur (Only.refl _ _) (by omega) (by omega)).mono ?_; rintro e vT ⟨x4', rfl, hx4', kT, oT⟩; have D2 : Hid (D13 B a0 len cap b w vT q wd fl a n c ys) := DA.out.draw oT kT; obtain ⟨X, rfl⟩ := Int.eq_ofNat_of_zero_le hx4'.1; have hX : X < 4 := (by omega); have hXi : (X : Int) < 4 := (by omega); obtain ⟨y, hy⟩ := mTab_in X hX; have hcell : vT.cell? ⟨w5'.heap.size, X, none⟩ = some (.int .i64 y) := (table_cell (w := w5'.drew) (D5.out.next (Below.refl _ _).drew).cur.hi oT X).trans hy; have DZ := D2; have hS := D2.out.plc.c2; simp only [])
              refine hK.out _ _ (by assumption) (fun _ => ?_)
              try simp only [Act.put, List.setIfInBounds_toArray, List.set_cons_zero, List.set_cons_succ, List.getElem_toArray, List.getElem_cons_succ, List.getElem_cons_zero]
              refine late_take (i := 5) (v := ?_) rfl (by kernel_rfl) (by kernel_rfl) (by kernel_rfl) (by kernel_rfl) (fun _ _ _ h => h) (Or.inl ⟨by rfl, ?_⟩) (by assumption) ?_
              rotate_left 1
              · (intro w' hSw; (try dsimp only at hSw); go_simp; try with_reducible rfl)
              try simp only [Act.put, List.setIfInBounds_toArray, List.set_cons_zero, List.set_cons_succ, List.getElem_toArray, List.getElem_cons_succ, List.getElem_cons_zero]
              refine late_one (i := 6) (by kernel_rfl) rfl (fun K hK => ?_)
              go_simp
              refine hK.out _ _ (by assumption) (fun _ => ?_)
              try simp only [Act.put, List.setIfInBounds_toArray, List.set_cons_zero, List.set_cons_succ, List.getElem_toArray, List.getElem_cons_succ, List.getElem_cons_zero]
              refine late_one (i := 7) (by kernel_rfl) rfl (fun K hK => ?_)
              go_simp
              have DB : Hid (D13 B a0 len cap b w (vT.alloc (.cells #[.int .i64 y] 2)) q wd fl a n c ys) := DZ.out.next (new_below _ _)
              refine hK.out _ _ (DB.out.plc.c2) (fun hS => ?_)
              try simp only [Act.put, List.setIfInBounds_toArray, List.set_cons_zero, List.set_cons_succ, List.getElem_toArray, List.getElem_cons_succ, List.getElem_cons_zero]
              refine late_one (i := 8) (by kernel_rfl) rfl (fun K hK => ?_)
              rw [if_pos (by rfl)]
              refine wp_append_own _ _ _ 35 rfl (q + 1) 2 i0 _ 1 8 Try.underlying35 hi hz0 hz1 hz2 rfl (by decide) _ _ _ rfl DB.out.own ⟨vT.heap.size, 0, none⟩ 1 1 [.int .i64 y] rfl rfl (one_news (by go_simp)) (fun u hu => by rw [List.mem_singleton] at hu; subst hu; rfl) (by unfold maxLen; omega) (by omega) (by have := DB.out.plc.z; omega) ?_
              intro v' w' hown' hgr hnil
              obtain ⟨a', c', rfl⟩ := own_slice hown'
              have hrow : w'.ownsRow (q + 1) 2 1 (.slice a' (ys.length + 1) c') (ys ++ [y]).length (flatI (ys ++ [y])) := by rw [List.length_append, flatI_append]; exact hown'
              have hno : OnlyO (Value.slice a n c).ownBlock (vT.alloc (.cells #[.int .i64 y] 2)) w' := OnlyO.of_grown hgr
              have dN := DB.out.put hno hrow (by rw [List.length_append]; simp; omega)
              have kk6 := DB.out.farO hno (fun g e => by have := (DB.out.own.lt g e).1; omega)
              have q2 := kk6.2.2.2.2.1.c2
              have qF := kk6.2.2.2.2.2
              clear kk6
              refine hK.out _ _ q2 (fun hS => ?_)
              try simp only [Act.put, List.setIfInBounds_toArray, List.set_cons_zero, List.set_cons_succ, List.getElem_toArray, List.getElem_cons_succ, List.getElem_cons_zero]
              refine late_take (i := 9) (v := ?_) rfl (by kernel_rfl) (by kernel_rfl) (by kernel_rfl) (by kernel_rfl) (fun _ _ _ h => h) (Or.inl ⟨by rfl, ?_⟩) (by assumption) ?_
              rotate_left 1
              · (intro w' hSw; (try dsimp only at hSw); go_simp; try with_reducible rfl)
              try simp only [Act.put, List.setIfInBounds_toArray, List.set_cons_zero, List.set_cons_succ, List.getElem_toArray, List.getElem_cons_succ, List.getElem_cons_zero]
              refine late_last (by kernel_rfl) rfl (by kernel_rfl) (fun K hK => ?_)
              go_simp
              refine hK.out _ _ ?_
              try simp only [Act.put, List.setIfInBounds_toArray, List.set_cons_zero, List.set_cons_succ, List.getElem_toArray, List.getElem_cons_succ, List.getElem_cons_zero]
              go_wp2
              go_meet
              exact ⟨_, _, _, _, _, _, dN⟩
            · go_simp
              (refine (below_acc 4 (D5.out.next (Below.refl _ _).drew).cur (Only.refl _ _) (by omega) (by omega)).mono ?_; rintro e vT ⟨x4', rfl, hx4', kT, oT⟩; have D2 : Hid (D13 B a0 len cap b w vT q wd fl a n c ys) := (D5.out.next (Below.refl _ _).drew).draw oT kT; obtain ⟨X, rfl⟩ := Int.eq_ofNat_of_zero_le hx4'.1; have hX : X < 4 := (by omega); have hXi : (X : Int) < 4 := (by omega); obtain ⟨y, hy⟩ := mTab_in X hX; have hS := D2.out.plc.c2; simp only [])
              refine hK.out _ _ (by assumption) (fun _ => ?_)
              try simp only [Act.put, List.setIfInBounds_toArray, List.set_cons_zero, List.set_cons_succ, List.getElem_toArray, List.getElem_cons_succ, List.getElem_cons_zero]
              refine late_one (i := 2) (by kernel_rfl) rfl (fun K hK => ?_)
              go_simp
              have DA : Hid (D13 B a0 len cap b w (vT.alloc (.cells #[.int .i64 (-1), .int .i64 1000000, .int .i64 1000001, .int .i64 3] 2)) q wd fl a n c ys) := D2.out.next (new_below _ _)
              have hcell : (vT.alloc (.cells #[.int .i64 (-1), .int .i64 1000000, .int .i64 1000001, .int .i64 3] 2)).cell? ⟨vT.heap.size, X, none⟩ = some (.int .i64 y) := (World.cell?_alloc_at _ _ _ _ rfl).trans hy
              obtain ⟨vU, hvU⟩ : ∃ vU, vU = vT.alloc (.cells #[.int .i64 (-1), .int .i64 1000000, .int .i64 1000001, .int .i64 3] 2) := ⟨_, rfl⟩
              rw [← hvU] at hcell DA ⊢
              have DZ := DA
              clear hvU
              refine hK.out _ _ (DA.out.plc.c2) (fun hS => ?_)
              try simp only [Act.put, List.setIfInBounds_toArray, List.set_cons_zero, List.set_cons_succ, List.getElem_toArray, List.getElem_cons_succ, List.getElem_cons_zero]
              refine late_take (i := 5) (v := ?_) rfl (by kernel_rfl) (by kernel_rfl) (by kernel_rfl) (by kernel_rfl) (fun _ _ _ h => h) (Or.inl ⟨by rfl, ?_⟩) (by assumption) ?_
              rotate_left 1
              · (intro w' hSw; (try dsimp only at hSw); go_simp; try with_reducible rfl)
              try simp only [Act.put, List.setIfInBounds_toArray, List.set_cons_zero, List.set_cons_succ, List.getElem_toArray, List.getElem_cons_succ, List.getElem_cons_zero]
              refine late_one (i := 6) (by kernel_rfl) rfl (fun K hK => ?_)
              go_simp
              refine hK.out _ _ (by assumption) (fun _ => ?_)
              try simp only [Act.put, List.setIfInBounds_toArray, List.set_cons_zero, List.set_cons_succ, List.getElem_toArray, List.getElem_cons_succ, List.getElem_cons_zero]
              refine late_one (i := 7) (by kernel_rfl) rfl (fun K hK => ?_)
              go_simp
              have DB : Hid (D13 B a0 len cap b w (vU.alloc (.cells #[.int .i64 y] 2)) q wd fl a n c ys) := DZ.out.next (new_below _ _)
              refine hK.out _ _ (DB.out.plc.c2) (fun hS => ?_)
              try simp only [Act.put, List.setIfInBounds_toArray, List.set_cons_zero, List.set_cons_succ, List.getElem_toArray, List.getElem_cons_succ, List.getElem_cons_zero]
              refine late_one (i := 8) (by kernel_rfl) rfl (fun K hK => ?_)
              rw [if_pos (by rfl)]
              refine wp_append_own _ _ _ 35 rfl (q + 1) 2 i0 _ 1 8 Try.underlying35 hi hz0 hz1 hz2 rfl (by decide) _ _ _ rfl DB.out.own ⟨vU.heap.size, 0, none⟩ 1 1 [.int .i64 y] rfl rfl (one_news (by go_simp)) (fun u hu => by rw [List.mem_singleton] at hu; subst hu; rfl) (by unfold maxLen; omega) (by omega) (by have := DB.out.plc.z; omega) ?_
              intro v' w' hown' hgr hnil
              obtain ⟨a', c', rfl⟩ := own_slice hown'
              have hrow : w'.ownsRow (q + 1) 2 1 (.slice a' (ys.length + 1) c') (ys ++ [y]).length (flatI (ys ++ [y])) := by rw [List.length_append, flatI_append]; exact hown'
              have hno : OnlyO (Value.slice a n c).ownBlock (vU.alloc (.cells #[.int .i64 y] 2)) w' := OnlyO.of_grown hgr
              have dN := DB.out.put hno hrow (by rw [List.length_append]; simp; omega)
              have kk6 := DB.out.farO hno (fun g e => by have := (DB.out.own.lt g e).1; omega)
              have q2 := kk6.2.2.2.2.1.c2
              have qF := kk6.2.2.2.2.2
              clear kk6
              refine hK.out _ _ q2 (fun hS => ?_)
              try simp only [Act.put, List.setIfInBounds_toArray, List.set_cons_zero, List.set_cons_succ, List.getElem_toArray, List.getElem_cons_succ, List.getElem_cons_zero]
              refine late_take (i := 9) (v := ?_) rfl (by kernel_rfl) (by kernel_rfl) (by kernel_rfl) (by kernel_rfl) (fun _ _ _ h => h) (Or.inl ⟨by rfl, ?_⟩) (by assumption) ?_
              rotate_left 1
              · (intro w' hSw; (try dsimp only at hSw); go_simp; try with_reducible rfl)
              try simp only [Act.put, List.setIfInBounds_toArray, List.set_cons_zero, List.set_cons_succ, List.getElem_toArray, List.getElem_cons_succ, List.getElem_cons_zero]
              refine late_last (by kernel_rfl) rfl (by kernel_rfl) (fun K hK => ?_)
              go_simp
              refine hK.out _ _ ?_
              try simp only [Act.put, List.setIfInBounds_toArray, List.set_cons_zero, List.set_cons_succ, List.getElem_toArray, List.getElem_cons_succ, List.getElem_cons_zero]
              go_wp2
              go_meet
              exact ⟨_, _, _, _, _, _, dN⟩
          · go_upto_region 18 with (fail)
            have p2 : w5'.cell? ⟨q, 2, none⟩ = some (.slice a n c) := D5.out.plc.c2
            have pz := D5.out.pf
            have pq := D5.out.plc.z
            have pn : w5'.heap.size ≠ q := by omega
            have pn' : q ≠ w5'.heap.size := by omega
            go_upto_region 19 with (fail)
            have DL : Hid (D13 B a0 len cap b w ((w5'.alloc (.cells #[] 2)).setCell ⟨q, 2, none⟩ (.slice (some ⟨w5'.heap.size, 0, none⟩) 0 0)) q wd fl (some ⟨w5'.heap.size, 0, none⟩) 0 0 []) := (D5.out.next (new_below _ _)).set_ms (own_none1 w5' (q + 1) _ rfl (by omega) _) (by decide)
            obtain ⟨x8, hx8⟩ : ∃ y, y = (w5'.alloc (.cells #[] 2)).setCell ⟨q, 2, none⟩ (.slice (some ⟨w5'.heap.size, 0, none⟩) 0 0) := ⟨_, rfl⟩
            have eW : (w5'.setCell ⟨q, 2, none⟩ (.slice (some ⟨w5'.heap.size, 0, none⟩) 0 0)).alloc (.cells #[] 2) = (w5'.alloc (.cells #[] 2)).setCell ⟨q, 2, none⟩ (.slice (some ⟨w5'.heap.size, 0, none⟩) 0 0) := by go_simp
            rw [← hx8] at DL eW
            rw [eW]
            clear hx8 eW p2 pz pn pn'
            go_wp2
            go_loopw [7] (fun i wr => ∃ (j : Nat) (a : Option Addr) (n c : Nat) (ys : List Int), i = .int .i64 j ∧ j ≤ 50 ∧ ys.length = j ∧ D13 B a0 len cap b w wr q wd fl a n c ys) (fun i _ => 50 - (intOf i).toNat)
            case atStart => exact ⟨0, _, _, _, [], rfl, by omega, rfl, DL.out⟩
            case round =>
              clear DL
              obtain ⟨j, a, n, c, ys, rfl, hj, hyj, d⟩ := hrel
              have DL : Hid (D13 B a0 len cap b w wr q wd fl a n c ys) := d
              have HYJ : Hid (ys.length = j) := hyj
              clear d hyj
              go_upto_if 67 with (first
                | (go_at_call 70; refine (below_acc 2 DL.out.cur (Only.refl _ _) (by omega) (by omega)).mono ?_; rintro e v1 ⟨x1, rfl, hx1, kk, oo⟩; have DL : Hid (D13 B a0 len cap b w v1 q wd fl a n c ys) := DL.out.draw oo kk; have rx : IntKind.i64.wrap (50 - x1) = 50 - x1 := (by rw [IntKind.wrap_i64]; omega)))
              by_cases hgo : (j : Int) < 50 - x1
              · have hgd : decide ((j : Int) < 50 - x1) = true := decide_eq_true hgo
                have rj : IntKind.i64.wrap (2 * (j : Int)) = 2 * (j : Int) := by rw [IntKind.wrap_i64]; omega
                have rj1 : IntKind.i64.wrap ((j : Int) + 1) = (j : Int) + 1 := by rw [IntKind.wrap_i64]; omega
                have p2 : v1.cell? ⟨q, 2, none⟩ = some (.slice a n c) := DL.out.plc.c2
                have pz := DL.out.pf
                have pq := DL.out.plc.z
                have hyl := HYJ.out
                have pn : v1.heap.size ≠ q := by omega
                have HWA : Hid (D13 B a0 len cap b w (v1.alloc (.cells #[.int .i64 (2 * (j : Int))] 2)) q wd fl a n c ys) := DL.out.next (new_below _ _)
                clear hyl
                go_wp2_with (first
                  | (at_builtin; refine wpList_append_own _ rfl _ _ 35 rfl (q + 1) 2 i0 _ 1 8 Try.underlying35 hi hz0 hz1 hz2 rfl (by decide) _ _ _ rfl HWA.out.own ⟨v1.heap.size, 0, none⟩ 1 1 [.int .i64 (2 * (j : Int))] rfl rfl (one_news (by go_simp)) (fun u hu => by rw [List.mem_singleton] at hu; subst hu; rfl) (by have := HYJ.out; unfold maxLen; omega) (by have := HYJ.out; omega) (by simp; omega) ?_; intro v' w' hown' hgr hnil; obtain ⟨a', c', rfl⟩ := own_slice hown'; have hno : OnlyO (Value.slice a n c).ownBlock (v1.alloc (.cells #[.int .i64 (2 * (j : Int))] 2)) w' := OnlyO.of_grown hgr; have hrow : w'.ownsRow (q + 1) 2 1 (.slice a' (ys.length + 1) c') (ys ++ [2 * (j : Int)]).length (flatI (ys ++ [2 * (j : Int)])) := (by rw [List.length_append, flatI_append]; exact hown'); have DN : Hid (D13 B a0 len cap b w (w'.setCell ⟨q, 2, none⟩ (.slice a' (ys.length + 1) c')) q wd fl a' (ys.length + 1) c' (ys ++ [2 * (j : Int)])) := HWA.out.put hno hrow (by have := HYJ.out; rw [List.length_append]; simp; omega); have kk6 := HWA.out.farO hno (fun g e => (by have := (HWA.out.own.lt g e).1; omega)); have p2 : w'.cell? ⟨q, 2, none⟩ = some (.slice a n c) := kk6.2.2.2.2.1.c2; have pz := kk6.2.2.2.2.2; clear kk6))
                go_roundw
                case rel => exact ⟨j + 1, _, _, _, _, by go_num, by omega, by rw [List.length_append, HYJ.out]; rfl, DN.out⟩
                case measure => first | (simp [intOf]; done) | (simp [intOf]; omega)
              · have hgd : decide ((j : Int) < 50 - x1) = false := decide_eq_false hgo
                go_wp2
                go_meet
                exact ⟨_, _, _, _, _, _, DL.out⟩
      case rest =>
      obtain ⟨wd, fl, a, n, c, ys, d⟩ := hcut
      have D : Hid (D13 B a0 len cap b w wc q wd fl a n c ys) := d
      clear d
      have p0 : wc.cell? ⟨q, 0, none⟩ = some (.int .i64 wd) := D.out.plc.c0
      have p1 : wc.cell? ⟨q, 1, none⟩ = some (.int .i64 fl) := D.out.plc.c1
      have p2 : wc.cell? ⟨q, 2, none⟩ = some (.slice a n c) := D.out.plc.c2
      have r0 : wc.cell? ⟨w.heap.size, 0, none⟩ = some (.int .i64 0) := D.out.res.c0
      have r1 : wc.cell? ⟨w.heap.size, 1, none⟩ = some (.int .i64 0) := D.out.res.c1
      have r2 : wc.cell? ⟨w.heap.size, 2, none⟩ = some (.slice none 0 0) := D.out.res.c2
      have rz := D.out.rf
      go_wp2
      obtain ⟨y, ey, cs, fy, ky, oy⟩ := d13_out D.out
      rw [← ey]
      refine bodyPost_ret (results_one rfl _ _ _ [.int .i64 wd, .int .i64 fl, .slice a n c] rfl cs Try.underlying37 rfl (by kernel_rfl)) rfl ?_
      exact ⟨wd, fl, a, n, c, ys, rfl, fy, D.out.le, ky, oy⟩
end Go.Proofs.Ytoeiheccmpjclaf
