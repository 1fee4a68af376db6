/- The draw of a trip. -/
import Derived.Test.YtohenfogiegkmadDraw9
import Derived.Test.YtohenfogiegkmadLate
import Derived.Deep.RegionHeld3
import Derived.Deep.DeepCutAuto
namespace Go.Proofs.Ytohenfogiegkmad
open Go.ChangeShapes Go.WideShapes Go.ChangeAt Go.RowKit
set_option maxRecDepth 100000
set_option linter.unusedVariables false
set_option linter.unusedSimpArgs false

theorem t9_new {B : Nat} {a0 : Option Addr} {len cap b : Nat} {w : World} (k : Cur B a0 len cap b w) (T : TypeId) :
    T9St B a0 len cap b w ((w.alloc (.cells #[.bool false, .int .i64 0, .int .i64 0, .int .i64 0] T)).alloc (.cells #[.bool false, .int .i64 0, .int .i64 0, .int .i64 0] T)) (w.heap.size + 1) false 0 0 0 :=
  ⟨(k.alloc _).alloc _, ((Only.refl b w).alloc _).alloc _, k.hi, by omega, by simp, ⟨by go_simp, by go_simp, by go_simp, by go_simp, fun i => by go_simp⟩, ⟨by go_simp, by go_simp, by go_simp, by go_simp, fun i => by go_simp⟩⟩
theorem T9St.put {B : Nat} {a0 : Option Addr} {len cap b : Nat} {w wr : World} {g : Nat} {r : Bool} {u l t : Int} (d : T9St B a0 len cap b w wr g r u l t) (r' : Bool) (u' l' t' : Int) :
    T9St B a0 len cap b w ((((wr.setCell ⟨g, 0, none⟩ (.bool r')).setCell ⟨g, 1, none⟩ (.int .i64 u')).setCell ⟨g, 2, none⟩ (.int .i64 l')).setCell ⟨g, 3, none⟩ (.int .i64 t')) g r' u' l' t' := (((d.set0 r').set1 u').set2 l').set3 t'
def T9Post (B : Nat) (a0 : Option Addr) (len cap b : Nat) (w : World) (e : Ending) (w' : World) : Prop := ∃ (k : Bool) (x y z : Int), e = .returned (.agg #[.bool k, .int .i64 x, .int .i64 y, .int .i64 z]) ∧ Cur B a0 len cap b w' ∧ Only b w w'
theorem tabS9_in (X : Nat) (h : X < 4) : ∃ y : Int, (#[Value.int IntKind.i64 (-1), Value.int IntKind.i64 1000000000000000, Value.int IntKind.i64 1000000000000001, Value.int IntKind.i64 5] : Array Value)[X]? = some (.int .i64 y) := by
  match X, h with
  | 0, _ => exact ⟨_, rfl⟩
  | 1, _ => exact ⟨_, rfl⟩
  | 2, _ => exact ⟨_, rfl⟩
  | 3, _ => exact ⟨_, rfl⟩
theorem tabB9_in (X : Nat) (h : X < 3) : ∃ y : Int, (#[Value.int IntKind.i64 (-1), Value.int IntKind.i64 10, Value.int IntKind.i64 11] : Array Value)[X]? = some (.int .i64 y) := by
  match X, h with
  | 0, _ => exact ⟨_, rfl⟩
  | 1, _ => exact ⟨_, rfl⟩
  | 2, _ => exact ⟨_, rfl⟩
set_option maxHeartbeats 16000000 in
theorem l9Draw_acc {B : Nat} {a0 : Option Addr} {len cap b : Nat} {w : World} (kc : Cur B a0 len cap b w) :
    Calls Try.prog 90 #[.pointer (some ⟨b, 0, none⟩)] w (T9Post B a0 len cap b w) := by
  have hb := kc.hi
  have D0 : Hid (T9St B a0 len cap b w ((w.alloc (.cells #[.bool false, .int .i64 0, .int .i64 0, .int .i64 0] 67)).alloc (.cells #[.bool false, .int .i64 0, .int .i64 0, .int .i64 0] 67)) (w.heap.size + 1) false 0 0 0) := t9_new kc _
  go_enter Try.func90, Try.ntmps90
  go_wp2_with (first
    | (go_at_call 62; refine (below_acc _ D0.out.cur (Only.refl _ _) (by omega) (by omega)).mono ?_; rintro e w1 ⟨x1, rfl, hx1, k1, o1⟩; have D1 : Hid (T9St B a0 len cap b w w1 (w.heap.size + 1) false 0 0 0) := D0.out.draw o1 k1))
  obtain ⟨X1, rfl⟩ := Int.eq_ofNat_of_zero_le hx1.1
  go_loopw [4] (fun i wr => ∃ (j : Nat) (k : Bool) (x y z : Int), i = .int .i64 j ∧ j ≤ 4 ∧ Hid (T9St B a0 len cap b w wr (w.heap.size + 1) k x y z)) (fun i _ => (intOf i).toNat)
  case atStart => exact ⟨X1, false, 0, 0, 0, rfl, by omega, D1⟩
  case round =>
    clear D0 D1
    obtain ⟨j, k, x, y, z, rfl, hj, DR⟩ := hrel
    cases j with
    | succ j =>
      have hj1 : (0 : Int) < ((j + 1 : Nat) : Int) := by omega
      go_wp2
      refine region_late (S := fun w' => w'.cell? ⟨w.heap.size + 1, 0, none⟩ = some (.bool k) ∧ w'.cell? ⟨w.heap.size + 1, 1, none⟩ = some (.int .i64 x) ∧ w'.cell? ⟨w.heap.size + 1, 2, none⟩ = some (.int .i64 y) ∧ w'.cell? ⟨w.heap.size + 1, 3, none⟩ = some (.int .i64 z)) 4 (by kernel_rfl) (⟨DR.out.fil.c0, DR.out.fil.c1, DR.out.fil.c2, DR.out.fil.c3⟩) (fun hS => ?_)
      refine late_take (i := 0) (v := ?_) rfl (by kernel_rfl) (by kernel_rfl) (by kernel_rfl) (by kernel_rfl) (fun _ _ _ h => h) (Or.inl ⟨by rfl, ?_⟩) (by assumption) ?_
      rotate_left 1
      · (intro w' hSw; (try dsimp only at hSw); go_simp; try with_reducible rfl)
      try simp only [Act.put, List.setIfInBounds_toArray, List.set_cons_zero, List.set_cons_succ, List.getElem_toArray, List.getElem_cons_succ, List.getElem_cons_zero]
      refine late_take (i := 1) (v := ?_) rfl (by kernel_rfl) (by kernel_rfl) (by kernel_rfl) (by kernel_rfl) (fun _ _ _ h => h) (Or.inl ⟨by rfl, ?_⟩) (by assumption) ?_
      rotate_left 1
      · (intro w' hSw; (try dsimp only at hSw); go_simp; try with_reducible rfl)
      try simp only [Act.put, List.setIfInBounds_toArray, List.set_cons_zero, List.set_cons_succ, List.getElem_toArray, List.getElem_cons_succ, List.getElem_cons_zero]
      refine late_one (i := 2) (by kernel_rfl) rfl (fun K hK => ?_)
      go_simp
      (refine (below_acc _ (DR.out.next (Below.refl _ _).drew).cur (Only.refl _ _) (by omega) (by omega)).mono ?_; rintro e w5 ⟨x5, rfl, hx5, k5, o5⟩; have D5 : Hid (T9St B a0 len cap b w w5 (w.heap.size + 1) k x y z) := (DR.out.next (Below.refl _ _).drew).draw o5 k5; have hS5 := And.intro D5.out.fil.c0 (And.intro D5.out.fil.c1 (And.intro D5.out.fil.c2 D5.out.fil.c3)))
      refine hK.out _ _ (by assumption) (fun _ => ?_)
      try simp only [Act.put, List.setIfInBounds_toArray, List.set_cons_zero, List.set_cons_succ, List.getElem_toArray, List.getElem_cons_succ, List.getElem_cons_zero]
      refine late_one (i := 3) (by kernel_rfl) rfl (fun K hK => ?_)
      go_simp
      (refine (specMeasure_any k x y z x5 _).mono ?_; rintro e w6 ⟨rfl, hb6⟩; have D6 : Hid (T9St B a0 len cap b w w6 (w.heap.size + 1) k x y z) := D5.out.next hb6; have hS6 := And.intro D6.out.fil.c0 (And.intro D6.out.fil.c1 (And.intro D6.out.fil.c2 D6.out.fil.c3)); have hc0 := D6.out.fil.c0; have hc1 := D6.out.fil.c1; have hc2 := D6.out.fil.c2; have hc3 := D6.out.fil.c3; have hfr := D6.out.fil.fr; have hhi := D6.out.hi; have hlt := D6.out.lt; obtain ⟨mk, mx, my, mz, hme⟩ : ∃ mk mx my mz, measOf k x y z x5 = (mk, mx, my, mz) := ⟨_, _, _, _, rfl⟩; rw [hme])
      refine hK.out _ _ (by assumption) (fun _ => ?_)
      try simp only [Act.put, List.setIfInBounds_toArray, List.set_cons_zero, List.set_cons_succ, List.getElem_toArray, List.getElem_cons_succ, List.getElem_cons_zero]
      refine late_last (by kernel_rfl) rfl (by kernel_rfl) (fun K hK => ?_)
      go_simp
      refine hK.out _ _ ?_
      try simp only [Act.put, List.setIfInBounds_toArray, List.set_cons_zero, List.set_cons_succ, List.getElem_toArray, List.getElem_cons_succ, List.getElem_cons_zero]
      go_wp2
      go_roundw
      case rel => exact ⟨j, mk, mx, my, mz, by go_num, by omega, (D6.out.put mk mx my mz).next (by first | exact (Below.refl _ _).drew | exact Below.refl _ _)⟩
      case measure => first | (simp [intOf]; done) | (simp [intOf]; omega)
    | zero =>
      have hc0 := DR.out.fil.c0
      have hc1 := DR.out.fil.c1
      have hc2 := DR.out.fil.c2
      have hc3 := DR.out.fil.c3
      have hfr := DR.out.fil.fr
      have hhi := DR.out.hi
      have hlt := DR.out.lt
      go_upto_if 23 with (first
        | (go_at_call_of 62 (Value.int IntKind.i64 3); refine (below_acc 3 DR.out.cur (Only.refl _ _) (by omega) (by omega)).mono ?_; rintro e w5 ⟨x5, rfl, hx5, k5, o5⟩; have D5 : Hid (T9St B a0 len cap b w w5 (w.heap.size + 1) k x y z) := DR.out.draw o5 k5; have hc0 := D5.out.fil.c0; have hc1 := D5.out.fil.c1; have hc2 := D5.out.fil.c2; have hc3 := D5.out.fil.c3; have hfr := D5.out.fil.fr; have hhi := D5.out.hi; have hlt := D5.out.lt)
        | (go_at_call_of 62 (Value.int IntKind.i64 6); refine (below_acc 6 D5.out.cur (Only.refl _ _) (by omega) (by omega)).mono ?_; rintro e w6 ⟨x6, rfl, hx6, k6, o6⟩; have D6 : Hid (T9St B a0 len cap b w w6 (w.heap.size + 1) k x y z) := D5.out.draw o6 k6; have hc0 := D6.out.fil.c0; have hc1 := D6.out.fil.c1; have hc2 := D6.out.fil.c2; have hc3 := D6.out.fil.c3; have hfr := D6.out.fil.fr; have hhi := D6.out.hi; have hlt := D6.out.lt; have D6b : Hid (T9St B a0 len cap b w (w6.setCell ⟨w.heap.size + 1, 3, none⟩ (.int .i64 (wrap64 (x5 * x6)))) (w.heap.size + 1) k x y (wrap64 (x5 * x6))) := D6.out.set3 _)
        | (go_at_call 61; refine (once_acc _ D6b.out.cur (Only.refl _ _) (by omega) (by omega)).mono ?_; rintro e w7 ⟨f7, rfl, k7, o7⟩; have D7 : Hid (T9St B a0 len cap b w w7 (w.heap.size + 1) k x y (wrap64 (x5 * x6))) := D6b.out.draw o7 k7))
      obtain ⟨Z, hZ⟩ : ∃ Z, wrap64 (x5 * x6) = Z := ⟨_, rfl⟩
      rw [hZ] at D7
      rw [hZ]
      clear hZ D5 D6 D6b hc0 hc1 hc2 hc3 hfr hhi hlt
      go_cut [] from 24 (fun wd => ∃ (k : Bool) (x y z : Int), T9St B a0 len cap b w wd (w.heap.size + 1) k x y z)
      case first =>
        cases f7
        · go_wp2
          go_meet
          exact ⟨_, _, _, _, D7.out⟩
        · go_upto_block 2 with (first
            | (go_at_call_of 62 (Value.int IntKind.i64 4); refine (below_acc 4 D7.out.cur (Only.refl _ _) (by omega) (by omega)).mono ?_; rintro e w8 ⟨x8, rfl, hx8, k8, o8⟩; have D8 : Hid (T9St B a0 len cap b w w8 (w.heap.size + 1) k x y Z) := D7.out.draw o8 k8; have hc0 := D8.out.fil.c0; have hc1 := D8.out.fil.c1; have hc2 := D8.out.fil.c2; have hc3 := D8.out.fil.c3; have hfr := D8.out.fil.fr; have hhi := D8.out.hi; have hlt := D8.out.lt))
          rcases (show x8 = 0 ∨ x8 = 1 ∨ x8 = 2 ∨ x8 = 3 from by omega) with rfl | rfl | rfl | rfl
          · go_wp2_with (first
              | (go_at_call 62; refine (below_acc 4 (D8.out.cur.alloc _) (Only.refl _ _) (by omega) (by omega)).mono ?_; rintro e w9 ⟨x9, rfl, hx9, k9, o9⟩; obtain ⟨Y, rfl⟩ := Int.eq_ofNat_of_zero_le hx9.1; obtain ⟨v, hv⟩ := tabS9_in Y (by omega); have hcell := (table_cell D8.out.cur.hi o9 Y).trans hv; clear hv; have D9 : Hid (T9St B a0 len cap b w w9 (w.heap.size + 1) k x y Z) := (D8.out.next (new_below _ _)).draw o9 k9; have hc0 := D9.out.fil.c0; have hc1 := D9.out.fil.c1; have hc2 := D9.out.fil.c2; have hc3 := D9.out.fil.c3; have hfr := D9.out.fil.fr; have hhi := D9.out.hi; have hlt := D9.out.lt; have hY : (Y : Int) < 4 := (by omega)))
            go_meet
            exact ⟨_, _, _, _, D9.out.set1 v⟩
          · go_wp2_with (first
              | (go_at_call 62; refine (below_acc 4 (D8.out.cur.alloc _) (Only.refl _ _) (by omega) (by omega)).mono ?_; rintro e w9 ⟨x9, rfl, hx9, k9, o9⟩; obtain ⟨Y, rfl⟩ := Int.eq_ofNat_of_zero_le hx9.1; obtain ⟨v, hv⟩ := tabS9_in Y (by omega); have hcell := (table_cell D8.out.cur.hi o9 Y).trans hv; clear hv; have D9 : Hid (T9St B a0 len cap b w w9 (w.heap.size + 1) k x y Z) := (D8.out.next (new_below _ _)).draw o9 k9; have hc0 := D9.out.fil.c0; have hc1 := D9.out.fil.c1; have hc2 := D9.out.fil.c2; have hc3 := D9.out.fil.c3; have hfr := D9.out.fil.fr; have hhi := D9.out.hi; have hlt := D9.out.lt; have hY : (Y : Int) < 4 := (by omega)))
            go_meet
            exact ⟨_, _, _, _, D9.out.set2 v⟩
          · go_wp2_with (first
              | (go_at_call 62; refine (below_acc 3 (D8.out.cur.alloc _) (Only.refl _ _) (by omega) (by omega)).mono ?_; rintro e w9 ⟨x9, rfl, hx9, k9, o9⟩; obtain ⟨Y, rfl⟩ := Int.eq_ofNat_of_zero_le hx9.1; obtain ⟨v, hv⟩ := tabB9_in Y (by omega); have hcell := (table_cell D8.out.cur.hi o9 Y).trans hv; clear hv; have D9 : Hid (T9St B a0 len cap b w w9 (w.heap.size + 1) k x y Z) := (D8.out.next (new_below _ _)).draw o9 k9; have hc0 := D9.out.fil.c0; have hc1 := D9.out.fil.c1; have hc2 := D9.out.fil.c2; have hc3 := D9.out.fil.c3; have hfr := D9.out.fil.fr; have hhi := D9.out.hi; have hlt := D9.out.lt; have hY : (Y : Int) < 3 := (by omega)))
            go_meet
            exact ⟨_, _, _, _, D9.out.set3 v⟩
          · go_wp2
            go_meet
            exact ⟨_, _, _, _, D8.out.set0 (!k)⟩
      case rest =>
        obtain ⟨k, x, y, z, d⟩ := hcut
        have DE : Hid (T9St B a0 len cap b w wc (w.heap.size + 1) k x y z) := d
        clear d
        have hc0 := DE.out.fil.c0
        have hc1 := DE.out.fil.c1
        have hc2 := DE.out.fil.c2
        have hc3 := DE.out.fil.c3
        have hfr := DE.out.fil.fr
        have hhi := DE.out.hi
        have hlt := DE.out.lt
        have q0 := DE.out.res.c0
        have q1 := DE.out.res.c1
        have q2 := DE.out.res.c2
        have q3 := DE.out.res.c3
        have qf := DE.out.res.fr
        go_wp2
        refine bodyPost_ret (results_one rfl _ _ _ [.bool k, .int .i64 x, .int .i64 y, .int .i64 z] rfl (cells_set4 _ _ _ _ q0 q1 q2 q3) Try.underlying67 rfl (by kernel_rfl)) rfl ?_
        exact ⟨k, x, y, z, rfl, DE.out.done _ _ _ _⟩
end Go.Proofs.Ytohenfogiegkmad
