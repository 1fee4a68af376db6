/- Lemmas on the way, of several texts: Draw4b, Draw4c. -/
import Derived.Test.YtmophpbfaonfmacDraw4
import Derived.Deep.RegionHeld3
namespace Go.Proofs.Ytmophpbfaonfmac
open Go.ChangeShapes Go.WideShapes Go.ChangeAt Go.RowKit
set_option maxRecDepth 100000
set_option linter.unusedVariables false

theorem bst_new {B : Nat} {a0 : Option Addr} {len cap b : Nat} {w wr : World} {r u l t : Int} {T : TypeId} (k : Cur B a0 len cap b wr) (o : Only b w wr) (f : Four wr w.heap.size 0 0 0 0) (z : w.heap.size < wr.heap.size) (hb : b < w.heap.size) :
    BSt B a0 len cap b w (wr.alloc (.cells #[.int .i64 r, .int .i64 u, .int .i64 l, .int .i64 t] T)) wr.heap.size r u l t :=
  ⟨k.alloc _, o.alloc _, hb, z, by simp, f.only (Only.of_below (b := b) (new_below _ _)) z (by omega), ⟨by go_simp, by go_simp, by go_simp, by go_simp, fun i => by go_simp⟩⟩
theorem full_level {x y z : Int} (hf : fullOk x y z = true) (hy : 0 ≤ y ∧ y < 20000) : 0 ≤ (fullOf x y z).2.2.1 ∧ (fullOf x y z).2.2.1 ≤ 1000000000000000000 := by
  unfold fullOf
  rw [if_pos hf]
  show 0 ≤ 1000000000 * y ∧ 1000000000 * y ≤ 1000000000000000000
  omega
def BPost (B : Nat) (a0 : Option Addr) (len cap b : Nat) (w : World) (e : Ending) (w' : World) : Prop := ∃ r u l t, e = .returned (.agg #[.int .i64 r, .int .i64 u, .int .i64 l, .int .i64 t]) ∧ Cur B a0 len cap b w' ∧ Only b w w'
theorem tabR_in (X : Nat) (h : X < 3) : ∃ y : Int, (#[Value.int IntKind.i64 (-1), Value.int IntKind.i64 1000000000000, Value.int IntKind.i64 1000000000001] : Array Value)[X]? = some (.int .i64 y) := by
  match X, h with
  | 0, _ => exact ⟨_, rfl⟩
  | 1, _ => exact ⟨_, rfl⟩
  | 2, _ => exact ⟨_, rfl⟩
theorem tabU_in (X : Nat) (h : X < 4) : ∃ y : Int, (#[Value.int IntKind.i64 (-1), Value.int IntKind.i64 1000000000, Value.int IntKind.i64 1000000001, Value.int IntKind.i64 (-4611686018427387904)] : Array Value)[X]? = some (.int .i64 y) := by
  match X, h with
  | 0, _ => exact ⟨_, rfl⟩
  | 1, _ => exact ⟨_, rfl⟩
  | 2, _ => exact ⟨_, rfl⟩
  | 3, _ => exact ⟨_, rfl⟩
theorem tabL_in (z : Int) (X : Nat) (h : X < 3) : ∃ y : Int, (#[Value.int IntKind.i64 (-1), Value.int IntKind.i64 z, Value.int IntKind.i64 4611686018427387904] : Array Value)[X]? = some (.int .i64 y) := by
  match X, h with
  | 0, _ => exact ⟨_, rfl⟩
  | 1, _ => exact ⟨_, rfl⟩
  | 2, _ => exact ⟨_, rfl⟩
theorem tabT_in (X : Nat) (h : X < 3) : ∃ y : Int, (#[Value.int IntKind.i64 (-1), Value.int IntKind.i64 1000000000000000, Value.int IntKind.i64 1000000000000001] : Array Value)[X]? = some (.int .i64 y) := by
  match X, h with
  | 0, _ => exact ⟨_, rfl⟩
  | 1, _ => exact ⟨_, rfl⟩
  | 2, _ => exact ⟨_, rfl⟩
set_option maxHeartbeats 16000000 in
set_option maxRecDepth 100000 in
theorem l4Draw_acc {B : Nat} {a0 : Option Addr} {len cap b : Nat} {w : World} (k : Cur B a0 len cap b w) :
    Calls Try.prog 51 #[.pointer (some ⟨b, 0, none⟩)] w (BPost B a0 len cap b w) := by
  have hb := k.hi
  have k0 := k.alloc (.cells #[.int .i64 0, .int .i64 0, .int .i64 0, .int .i64 0] 25)
  have o0 := (Only.refl b w).alloc (.cells #[.int .i64 0, .int .i64 0, .int .i64 0, .int .i64 0] 25)
  have f0 : Four (w.alloc (.cells #[.int .i64 0, .int .i64 0, .int .i64 0, .int .i64 0] 25)) w.heap.size 0 0 0 0 := ⟨by go_simp, by go_simp, by go_simp, by go_simp, fun i => by go_simp⟩
  go_enter Try.func51, Try.ntmps51
  go_upto_if 16 with (first
    | (go_at_call 58; refine (drawRate_acc k0 (Only.refl _ _)).mono ?_; rintro e w1 ⟨x, rfl, hx, k1, o1⟩; have f1 := f0.only o1 (by simp) (by omega); have z1 : w.heap.size < w1.heap.size := (by have := o1.size; simp at this; omega); have p1 := o0.trans o1)
    | (go_at_call_of 68 (Value.int IntKind.i64 20000); refine (below_acc _ k1 (Only.refl _ _) (by omega) (by omega)).mono ?_; rintro e w2 ⟨y, rfl, hy, k2, o2⟩; have f2 := f1.only o2 z1 (by omega); have z2 : w.heap.size < w2.heap.size := Nat.lt_of_lt_of_le z1 o2.size; have p2 := p1.trans o2)
    | (go_at_call_of 68 (Value.int IntKind.i64 2000000000); refine (below_acc _ k2 (Only.refl _ _) (by omega) (by omega)).mono ?_; rintro e w3 ⟨z, rfl, hz, k3, o3⟩; have f3 := f2.only o3 z2 (by omega); have z3 : w.heap.size < w3.heap.size := Nat.lt_of_lt_of_le z2 o3.size; have p3 := p2.trans o3)
    | (go_at_call 107; refine (specFull_any _ _ _ _).mono ?_; rintro e w4 ⟨rfl, hb4⟩; have k4 := k3.mono hb4; have f4 := f3.only (Only.of_below (b := b) hb4) z3 (by omega); have z4 : w.heap.size < w4.heap.size := Nat.lt_of_lt_of_le z3 hb4.size; have p4 := p3.trans (Only.of_below (b := b) hb4)))
  go_cut [] from 4 (fun wd => ∃ r u l t, BSt B a0 len cap b w wd w4.heap.size r u l t ∧ 0 ≤ l ∧ l ≤ 1000000000000000000)
  case first =>
    cases hf : fullOk x y z
    · rw [Bool.not_false]
      go_wp2
      go_meet
      exact ⟨1000, 3000, 0, 5, bst_new k4 p4 f4 z4 hb, by omega, by omega⟩
    · rw [Bool.not_true]
      have nl := full_level hf hy
      go_wp2
      go_meet
      exact ⟨_, _, _, _, bst_new k4 p4 f4 z4 hb, nl.1, nl.2⟩
  case rest =>
  obtain ⟨r, u, l, t, d, nl0, nl1⟩ := hcut
  have D : Hid (BSt B a0 len cap b w wc w4.heap.size r u l t) := d
  clear d
  go_upto_block 0 with (first
    | (go_at_call 68; refine (below_acc _ D.out.cur (Only.refl _ _) (by omega) (by omega)).mono ?_; rintro e w5 ⟨x5, rfl, hx5, k5, o5⟩; have D5 : Hid (BSt B a0 len cap b w w5 w4.heap.size r u l t) := D.out.draw o5 k5; have hc0 := D5.out.fil.c0; have hc1 := D5.out.fil.c1; have hc2 := D5.out.fil.c2; have hc3 := D5.out.fil.c3; have hfr := D5.out.fil.fr; have hhi := D5.out.hi; have hlo := D5.out.lo))
  go_cut [] from 18 (fun wd => ∃ r u l t, BSt B a0 len cap b w wd w4.heap.size r u l t)
  case first =>
    rcases (show x5 = 0 ∨ x5 = 1 ∨ x5 = 2 ∨ x5 = 3 from by omega) with rfl | rfl | rfl | rfl
    · go_wp2
      go_meet
      exact ⟨_, _, _, _, D5.out.set2 0⟩
    · go_wp2_with (first
        | (go_at_call 68; refine (below_acc _ D5.out.cur (Only.refl _ _) (by omega) (by omega)).mono ?_; rintro e w6 ⟨x6, rfl, hx6, k6, o6⟩; have D6 : Hid (BSt B a0 len cap b w w6 w4.heap.size r u l t) := D5.out.draw o6 k6; have hc0 := D6.out.fil.c0; have hc1 := D6.out.fil.c1; have hc2 := D6.out.fil.c2; have hc3 := D6.out.fil.c3; have hfr := D6.out.fil.fr; have hhi := D6.out.hi; have hlo := D6.out.lo))
      go_meet
      exact ⟨_, _, _, _, D6.out.set2 x6⟩
    · go_wp2
      go_meet
      exact ⟨_, _, _, _, D5.out⟩
    · go_wp2
      go_meet
      exact ⟨_, _, _, _, D5.out⟩
  case rest =>
  clear D D5 hc0 hc1 hc2 hc3 hfr hhi hlo
  obtain ⟨r, u, l, t, d⟩ := hcut
  have D7 : Hid (BSt B a0 len cap b w wc w4.heap.size r u l t) := d
  clear d
  go_upto_if 32 with (first
    | (go_at_call 69; refine (once_acc _ D7.out.cur (Only.refl _ _) (by omega) (by omega)).mono ?_; rintro e w7 ⟨f7, rfl, k7, o7⟩; have D8 : Hid (BSt B a0 len cap b w w7 w4.heap.size r u l t) := D7.out.draw o7 k7; have hc0 := D8.out.fil.c0; have hc1 := D8.out.fil.c1; have hc2 := D8.out.fil.c2; have hc3 := D8.out.fil.c3; have hfr := D8.out.fil.fr; have hhi := D8.out.hi; have hlo := D8.out.lo))
  go_cut [] from 18 (fun wd => ∃ r u l t, BSt B a0 len cap b w wd w4.heap.size r u l t)
  case first =>
    cases f7
    · go_wp2
      go_meet
      exact ⟨_, _, _, _, D8.out⟩
    · go_upto_block 1 with (first
        | (go_at_call_of 68 (Value.int IntKind.i64 4); refine (below_acc 4 D8.out.cur (Only.refl _ _) (by omega) (by omega)).mono ?_; rintro e w8 ⟨x8, rfl, hx8, k8, o8⟩; have D8 : Hid (BSt B a0 len cap b w w8 w4.heap.size r u l t) := D8.out.draw o8 k8; have hc0 := D8.out.fil.c0; have hc1 := D8.out.fil.c1; have hc2 := D8.out.fil.c2; have hc3 := D8.out.fil.c3; have hfr := D8.out.fil.fr; have hhi := D8.out.hi; have hlo := D8.out.lo))
      rcases (show x8 = 0 ∨ x8 = 1 ∨ x8 = 2 ∨ x8 = 3 from by omega) with rfl | rfl | rfl | rfl
      · go_wp2_with (first
          | (go_at_call_of 68 (Value.int IntKind.i64 3); refine (below_acc 3 (D8.out.cur.alloc _) (Only.refl _ _) (by omega) (by omega)).mono ?_; rintro e w9 ⟨x9, rfl, hx9, k9, o9⟩; obtain ⟨Y, rfl⟩ := Int.eq_ofNat_of_zero_le hx9.1; obtain ⟨v, hv⟩ := tabR_in Y (by omega); have hcell := (table_cell D8.out.cur.hi o9 Y).trans hv; clear hv; have D9 : Hid (BSt B a0 len cap b w w9 w4.heap.size r u l t) := (D8.out.next (new_below _ _)).draw o9 k9; have hc0 := D9.out.fil.c0; have hc1 := D9.out.fil.c1; have hc2 := D9.out.fil.c2; have hc3 := D9.out.fil.c3; have hfr := D9.out.fil.fr; have hhi := D9.out.hi; have hlo := D9.out.lo))
        go_meet
        exact ⟨_, _, _, _, D9.out.set0 v⟩
      · go_wp2_with (first
          | (go_at_call_of 68 (Value.int IntKind.i64 4); refine (below_acc 4 (D8.out.cur.alloc _) (Only.refl _ _) (by omega) (by omega)).mono ?_; rintro e w9 ⟨x9, rfl, hx9, k9, o9⟩; obtain ⟨Y, rfl⟩ := Int.eq_ofNat_of_zero_le hx9.1; obtain ⟨v, hv⟩ := tabU_in Y (by omega); have hcell := (table_cell D8.out.cur.hi o9 Y).trans hv; clear hv; have D9 : Hid (BSt B a0 len cap b w w9 w4.heap.size r u l t) := (D8.out.next (new_below _ _)).draw o9 k9; have hc0 := D9.out.fil.c0; have hc1 := D9.out.fil.c1; have hc2 := D9.out.fil.c2; have hc3 := D9.out.fil.c3; have hfr := D9.out.fil.fr; have hhi := D9.out.hi; have hlo := D9.out.lo))
        go_meet
        exact ⟨_, _, _, _, D9.out.set1 v⟩
      · go_wp2
        have m0 : w8.heap.size ≠ b := by have := D8.out.lt; omega
        have m1 : w8.heap.size ≠ w4.heap.size := by omega
        go_region_with
          (first
            | (go_at_call 68; refine (below_acc _ (D8.out.cur.mono (by go_grown)) (Only.refl _ _) (by omega) (by omega)).mono ?_; rintro e w9 ⟨x9, rfl, hx9, k9, o9⟩; obtain ⟨Y, rfl⟩ := Int.eq_ofNat_of_zero_le hx9.1; obtain ⟨v, hv⟩ := tabL_in (IntKind.i64.wrap (l + 1)) Y (by omega); have D9 : Hid (BSt B a0 len cap b w w9 w4.heap.size r u l t) := (D8.out.next (by go_grown)).draw o9 k9; have kt := fun k o (h1 : k < _) (h2 : k ≠ b) => o9.cell (p := ⟨k, o, none⟩) h1 h2; have z9 := o9.size; (try simp at z9); have hY : (Y : Int) < 3 := (by omega); have m2 : w9.heap.size ≠ w4.heap.size := (by have := D9.out.hi; omega); have hc2 := D9.out.fil.c2; have hfr := D9.out.fil.fr; have hhi := D9.out.hi))
        all_goals go_wp2
        all_goals go_meet
        all_goals first | exact ⟨_, _, _, _, D9.out.set2 v⟩ | exact ⟨_, _, _, _, (D9.out.set2 v).next (new_below _ _)⟩
      · go_wp2_with (first
          | (go_at_call_of 68 (Value.int IntKind.i64 3); refine (below_acc 3 (D8.out.cur.alloc _) (Only.refl _ _) (by omega) (by omega)).mono ?_; rintro e w9 ⟨x9, rfl, hx9, k9, o9⟩; obtain ⟨Y, rfl⟩ := Int.eq_ofNat_of_zero_le hx9.1; obtain ⟨v, hv⟩ := tabT_in Y (by omega); have hcell := (table_cell D8.out.cur.hi o9 Y).trans hv; clear hv; have D9 : Hid (BSt B a0 len cap b w w9 w4.heap.size r u l t) := (D8.out.next (new_below _ _)).draw o9 k9; have hc0 := D9.out.fil.c0; have hc1 := D9.out.fil.c1; have hc2 := D9.out.fil.c2; have hc3 := D9.out.fil.c3; have hfr := D9.out.fil.fr; have hhi := D9.out.hi; have hlo := D9.out.lo))
        go_meet
        exact ⟨_, _, _, _, D9.out.set3 v⟩
  case rest =>
    obtain ⟨r, u, l, t, d⟩ := hcut
    have DE : Hid (BSt B a0 len cap b w wc w4.heap.size r u l t) := d
    clear d
    have hc0 := DE.out.fil.c0
    have hc1 := DE.out.fil.c1
    have hc2 := DE.out.fil.c2
    have hc3 := DE.out.fil.c3
    have hfr := DE.out.fil.fr
    have hhi := DE.out.hi
    have hlo := DE.out.lo
    have q0 := DE.out.res.c0
    have q1 := DE.out.res.c1
    have q2 := DE.out.res.c2
    have q3 := DE.out.res.c3
    have qf := DE.out.res.fr
    go_wp2
    refine bodyPost_ret (results_one rfl _ _ _ [.int .i64 r, .int .i64 u, .int .i64 l, .int .i64 t] rfl (cells_set4 _ _ _ _ q0 q1 q2 q3) Try.underlying25 rfl (by kernel_rfl)) rfl ?_
    exact ⟨r, u, l, t, rfl, DE.out.done _ _ _ _⟩
end Go.Proofs.Ytmophpbfaonfmac
namespace Go.Proofs.Ytmophpbfaonfmac
open Go.ChangeShapes Go.WideShapes Go.ChangeAt Go.RowKit
set_option maxRecDepth 100000
set_option linter.unusedVariables false

theorem sizeTab_in (X : Nat) (h : X < 6) : ∃ y : Int, (#[Value.int IntKind.i64 0, Value.int IntKind.i64 1, Value.int IntKind.i64 1500, Value.int IntKind.i64 1501, Value.int IntKind.i64 (-1), Value.int IntKind.i64 4611686018427387904] : Array Value)[X]? = some (.int .i64 y) := by
  match X, h with
  | 0, _ => exact ⟨_, rfl⟩
  | 1, _ => exact ⟨_, rfl⟩
  | 2, _ => exact ⟨_, rfl⟩
  | 3, _ => exact ⟨_, rfl⟩
  | 4, _ => exact ⟨_, rfl⟩
  | 5, _ => exact ⟨_, rfl⟩
set_option maxHeartbeats 400000 in
theorem drawSize_acc {B : Nat} {a0 : Option Addr} {len cap b : Nat} {w0 w : World} (c : Cur B a0 len cap b w) (o : Only b w0 w) :
    Calls Try.prog 142 #[.pointer (some ⟨b, 0, none⟩)] w fun e w' => ∃ x : Int, e = .returned (.int .i64 x) ∧ Cur B a0 len cap b w' ∧ Only b w0 w' := by
  go_enter Try.func142, Try.ntmps142
  go_wp2_with (first
    | (go_at_call 69; refine (once_acc _ (by assumption) (by assumption) (by omega) (by omega)).mono ?_; rintro e w2 ⟨f, rfl, c, o⟩; cases f)
    | (go_at_call_of 68 (Value.int IntKind.i64 1500); refine (below_acc _ (by assumption) (by assumption) (by omega) (by omega)).mono ?_; rintro e w2 ⟨x, rfl, hx, c, o⟩)
    | (go_at_call_of 68 (Value.int IntKind.i64 6); refine (below_acc 6 (Cur.alloc (by assumption) _) (Only.refl _ _) (by omega) (by omega)).mono ?_; rintro e w3 ⟨x, rfl, hx, c3, o3⟩; obtain ⟨X, rfl⟩ := Int.eq_ofNat_of_zero_le hx.1; obtain ⟨y, hy⟩ := sizeTab_in X (by omega); have hcell := (table_cell (Cur.hi (by assumption)) o3 X).trans hy; clear hy))
  all_goals go_ret
  all_goals first | exact ⟨_, rfl, c3, (o.alloc _).trans o3⟩ | exact ⟨_, rfl, c, o⟩
def WhenPost (w : World) (e : Ending) (w' : World) : Prop := ∃ r u l t n, e = .returned (.tuple #[.agg #[.int .i64 r, .int .i64 u, .int .i64 l, .int .i64 t], .int .i64 n]) ∧ Below w.heap.size w w'
end Go.Proofs.Ytmophpbfaonfmac
