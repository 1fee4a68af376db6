/- The draw of any Cc, of a number of bytes, of a size. -/
import Derived.Test.YtmophpbfaonfmaeDraw10b
namespace Go.Proofs.Ytmophpbfaonfmae
open Go.ChangeShapes Go.WideShapes Go.ChangeAt Go.RowKit
set_option maxRecDepth 100000
set_option linter.unusedVariables false
set_option linter.unusedSimpArgs false

theorem kindTab_in (X : Nat) (h : X < 3) : ∃ y : Int, (#[Value.int IntKind.i64 0, Value.int IntKind.i64 4, Value.int IntKind.i64 (-1)] : Array Value)[X]? = some (.int .i64 y) := by
  match X, h with
  | 0, _ => exact ⟨_, rfl⟩
  | 1, _ => exact ⟨_, rfl⟩
  | 2, _ => exact ⟨_, rfl⟩
theorem ackTab_in (X : Nat) (h : X < 5) : ∃ y : Int, (#[Value.int IntKind.i64 0, Value.int IntKind.i64 1, Value.int IntKind.i64 1000000000, Value.int IntKind.i64 1000000001, Value.int IntKind.i64 (-1)] : Array Value)[X]? = some (.int .i64 y) := by
  match X, h with
  | 0, _ => exact ⟨_, rfl⟩
  | 1, _ => exact ⟨_, rfl⟩
  | 2, _ => exact ⟨_, rfl⟩
  | 3, _ => exact ⟨_, rfl⟩
  | 4, _ => exact ⟨_, rfl⟩
theorem sizeTab10_in (X : Nat) (h : X < 6) : ∃ y : Int, (#[Value.int IntKind.i64 0, Value.int IntKind.i64 1, Value.int IntKind.i64 1500, Value.int IntKind.i64 1501, Value.int IntKind.i64 (-1), Value.int IntKind.i64 4611686018427387904] : Array Value)[X]? = some (.int .i64 y) := by
  match X, h with
  | 0, _ => exact ⟨_, rfl⟩
  | 1, _ => exact ⟨_, rfl⟩
  | 2, _ => exact ⟨_, rfl⟩
  | 3, _ => exact ⟨_, rfl⟩
  | 4, _ => exact ⟨_, rfl⟩
  | 5, _ => exact ⟨_, rfl⟩
set_option maxHeartbeats 16000000 in
theorem l10DrawAny_acc {B : Nat} {a0 : Option Addr} {len cap b : Nat} {w : World} (kc : Cur B a0 len cap b w) :
    Calls Try.prog 48 #[.pointer (some ⟨b, 0, none⟩)] w (D10Post B a0 len cap b w) := by
  have hb := kc.hi
  have k0 := kc.alloc (.cells #[.int .i64 0, .int .i64 0, .int .i64 0, .int .i64 0, .int .i64 0, .int .i64 0, .int .i64 0, .int .i64 0, .int .i64 0, .bool false] 31)
  have o0 := (Only.refl b w).alloc (.cells #[.int .i64 0, .int .i64 0, .int .i64 0, .int .i64 0, .int .i64 0, .int .i64 0, .int .i64 0, .int .i64 0, .int .i64 0, .bool false] 31)
  have f0 := ten_zero w 31
  go_enter Try.func48, Try.ntmps48
  go_upto_if 7 with (first
    | (go_at_call 78; refine (l10Draw_acc k0).mono ?_; rintro e w1 ⟨c, rfl, k1, o1⟩; have f1 := f0.only o1 (by simp) (by omega); have z1 : w.heap.size < w1.heap.size := (by have := o1.size; simp at this; omega); have p1 := o0.trans o1; have D2 : Hid (T10St B a0 len cap b w (w1.alloc (.cells #[.int .i64 c.k, .int .i64 c.wn, .int .i64 c.th, .int .i64 c.fl, .int .i64 c.ac, .int .i64 c.la, .int .i64 c.og, .int .i64 c.st, .int .i64 c.fr, .bool c.sl] 31)) w1.heap.size c) := t10_new (k := 0) rfl k1 p1 f1 z1 hb)
    | (go_at_call 66; refine (once_acc _ D2.out.cur (Only.refl _ _) (by omega) (by omega)).mono ?_; rintro e w4 ⟨f4, rfl, k4, o4⟩; have D4 : Hid (T10St B a0 len cap b w w4 w1.heap.size c) := D2.out.draw o4 k4))
  obtain ⟨g, hg⟩ : ∃ g, w1.heap.size = g := ⟨_, rfl⟩
  rw [hg] at D4
  simp only [hg]
  clear hg D2
  go_cut [] from 8 (fun wd => ∃ c : C10, T10St B a0 len cap b w wd g c)
  case first =>
    cases f4
    · go_wp2
      go_meet
      exact ⟨_, D4.out⟩
    · go_upto_block 0 with (first
        | (go_at_call_of 65 (Value.int IntKind.i64 7); refine (below_acc 7 D4.out.cur (Only.refl _ _) (by omega) (by omega)).mono ?_; rintro e w5 ⟨x5, rfl, hx5, k5, o5⟩; have D5 : Hid (T10St B a0 len cap b w w5 g c) := D4.out.draw o5 k5; have hc0 := D5.out.fil.c0; have hc1 := D5.out.fil.c1; have hc2 := D5.out.fil.c2; have hc3 := D5.out.fil.c3; have hc4 := D5.out.fil.c4; have hc5 := D5.out.fil.c5; have hc6 := D5.out.fil.c6; have hc7 := D5.out.fil.c7; have hc8 := D5.out.fil.c8; have hc9 := D5.out.fil.c9; have hfr := D5.out.fil.fr; have hhi := D5.out.hi; have hlt := D5.out.lt))
      rcases (show x5 = 0 ∨ x5 = 1 ∨ x5 = 2 ∨ x5 = 3 ∨ x5 = 4 ∨ x5 = 5 ∨ x5 = 6 from by omega) with rfl | rfl | rfl | rfl | rfl | rfl | rfl
      · go_wp2_with (first
          | (go_at_call_of 65 (Value.int IntKind.i64 3); refine (below_acc 3 (D5.out.cur.alloc _) (Only.refl _ _) (by omega) (by omega)).mono ?_; rintro e w6 ⟨x6, rfl, hx6, k6, o6⟩; obtain ⟨Y, rfl⟩ := Int.eq_ofNat_of_zero_le hx6.1; obtain ⟨v, hv⟩ := kindTab_in Y (by omega); have hcell := (table_cell D5.out.cur.hi o6 Y).trans hv; clear hv; have D6 : Hid (T10St B a0 len cap b w w6 g c) := (D5.out.next (new_below _ _)).draw o6 k6; have hc0 := D6.out.fil.c0; have hc1 := D6.out.fil.c1; have hc2 := D6.out.fil.c2; have hc3 := D6.out.fil.c3; have hc4 := D6.out.fil.c4; have hc5 := D6.out.fil.c5; have hc6 := D6.out.fil.c6; have hc7 := D6.out.fil.c7; have hc8 := D6.out.fil.c8; have hc9 := D6.out.fil.c9; have hfr := D6.out.fil.fr; have hhi := D6.out.hi; have hlt := D6.out.lt; have hY : (Y : Int) < 3 := (by omega)))
        go_meet
        exact ⟨_, D6.out.set0 v⟩
      · go_wp2_with (first
          | (go_at_call 64; refine (drawWindow_acc D5.out.cur (Only.refl _ _)).mono ?_; rintro e w6 ⟨v, rfl, _, k6, o6⟩; have D6 : Hid (T10St B a0 len cap b w w6 g c) := D5.out.draw o6 k6; have hc0 := D6.out.fil.c0; have hc1 := D6.out.fil.c1; have hc2 := D6.out.fil.c2; have hc3 := D6.out.fil.c3; have hc4 := D6.out.fil.c4; have hc5 := D6.out.fil.c5; have hc6 := D6.out.fil.c6; have hc7 := D6.out.fil.c7; have hc8 := D6.out.fil.c8; have hc9 := D6.out.fil.c9; have hfr := D6.out.fil.fr; have hhi := D6.out.hi; have hlt := D6.out.lt))
        go_meet
        exact ⟨_, D6.out.set1 v⟩
      · go_wp2_with (first
          | (go_at_call 64; refine (drawWindow_acc D5.out.cur (Only.refl _ _)).mono ?_; rintro e w6 ⟨v, rfl, _, k6, o6⟩; have D6 : Hid (T10St B a0 len cap b w w6 g c) := D5.out.draw o6 k6; have hc0 := D6.out.fil.c0; have hc1 := D6.out.fil.c1; have hc2 := D6.out.fil.c2; have hc3 := D6.out.fil.c3; have hc4 := D6.out.fil.c4; have hc5 := D6.out.fil.c5; have hc6 := D6.out.fil.c6; have hc7 := D6.out.fil.c7; have hc8 := D6.out.fil.c8; have hc9 := D6.out.fil.c9; have hfr := D6.out.fil.fr; have hhi := D6.out.hi; have hlt := D6.out.lt))
        go_meet
        exact ⟨_, D6.out.set2 v⟩
      · go_wp2_with (first
          | (go_at_call 64; refine (drawWindow_acc D5.out.cur (Only.refl _ _)).mono ?_; rintro e w6 ⟨v, rfl, _, k6, o6⟩; have D6 : Hid (T10St B a0 len cap b w w6 g c) := D5.out.draw o6 k6; have hc0 := D6.out.fil.c0; have hc1 := D6.out.fil.c1; have hc2 := D6.out.fil.c2; have hc3 := D6.out.fil.c3; have hc4 := D6.out.fil.c4; have hc5 := D6.out.fil.c5; have hc6 := D6.out.fil.c6; have hc7 := D6.out.fil.c7; have hc8 := D6.out.fil.c8; have hc9 := D6.out.fil.c9; have hfr := D6.out.fil.fr; have hhi := D6.out.hi; have hlt := D6.out.lt))
        go_meet
        exact ⟨_, D6.out.set3 v⟩
      · go_wp2_with (first
          | (go_at_call 64; refine (drawWindow_acc D5.out.cur (Only.refl _ _)).mono ?_; rintro e w6 ⟨v, rfl, _, k6, o6⟩; have D6 : Hid (T10St B a0 len cap b w w6 g c) := D5.out.draw o6 k6; have hc0 := D6.out.fil.c0; have hc1 := D6.out.fil.c1; have hc2 := D6.out.fil.c2; have hc3 := D6.out.fil.c3; have hc4 := D6.out.fil.c4; have hc5 := D6.out.fil.c5; have hc6 := D6.out.fil.c6; have hc7 := D6.out.fil.c7; have hc8 := D6.out.fil.c8; have hc9 := D6.out.fil.c9; have hfr := D6.out.fil.fr; have hhi := D6.out.hi; have hlt := D6.out.lt))
        go_meet
        exact ⟨_, D6.out.set4 v⟩
      · go_wp2_with (first
          | (go_at_call 73; refine (drawTime_acc D5.out.cur (Only.refl _ _)).mono ?_; rintro e w6 ⟨v, rfl, _, k6, o6⟩; have D6 : Hid (T10St B a0 len cap b w w6 g c) := D5.out.draw o6 k6; have hc0 := D6.out.fil.c0; have hc1 := D6.out.fil.c1; have hc2 := D6.out.fil.c2; have hc3 := D6.out.fil.c3; have hc4 := D6.out.fil.c4; have hc5 := D6.out.fil.c5; have hc6 := D6.out.fil.c6; have hc7 := D6.out.fil.c7; have hc8 := D6.out.fil.c8; have hc9 := D6.out.fil.c9; have hfr := D6.out.fil.fr; have hhi := D6.out.hi; have hlt := D6.out.lt))
        go_meet
        exact ⟨_, D6.out.set7 v⟩
      · go_wp2_with (first
          | (go_at_call 64; refine (drawWindow_acc D5.out.cur (Only.refl _ _)).mono ?_; rintro e w6 ⟨v, rfl, _, k6, o6⟩; have D6 : Hid (T10St B a0 len cap b w w6 g c) := D5.out.draw o6 k6; have hc0 := D6.out.fil.c0; have hc1 := D6.out.fil.c1; have hc2 := D6.out.fil.c2; have hc3 := D6.out.fil.c3; have hc4 := D6.out.fil.c4; have hc5 := D6.out.fil.c5; have hc6 := D6.out.fil.c6; have hc7 := D6.out.fil.c7; have hc8 := D6.out.fil.c8; have hc9 := D6.out.fil.c9; have hfr := D6.out.fil.fr; have hhi := D6.out.hi; have hlt := D6.out.lt))
        go_meet
        exact ⟨_, D6.out.set5 v⟩
  case rest =>
    obtain ⟨c, d⟩ := hcut
    have DE : Hid (T10St B a0 len cap b w wc g c) := d
    clear d
    have hc0 := DE.out.fil.c0
    have hc1 := DE.out.fil.c1
    have hc2 := DE.out.fil.c2
    have hc3 := DE.out.fil.c3
    have hc4 := DE.out.fil.c4
    have hc5 := DE.out.fil.c5
    have hc6 := DE.out.fil.c6
    have hc7 := DE.out.fil.c7
    have hc8 := DE.out.fil.c8
    have hc9 := DE.out.fil.c9
    have hfr := DE.out.fil.fr
    have hhi := DE.out.hi
    have hlt := DE.out.lt
    have q0 := DE.out.res.c0
    have q1 := DE.out.res.c1
    have q2 := DE.out.res.c2
    have q3 := DE.out.res.c3
    have q4 := DE.out.res.c4
    have q5 := DE.out.res.c5
    have q6 := DE.out.res.c6
    have q7 := DE.out.res.c7
    have q8 := DE.out.res.c8
    have q9 := DE.out.res.c9
    have qf := DE.out.res.fr
    go_wp2
    refine bodyPost_ret (results_one rfl _ _ _ [.int .i64 c.k, .int .i64 c.wn, .int .i64 c.th, .int .i64 c.fl, .int .i64 c.ac, .int .i64 c.la, .int .i64 c.og, .int .i64 c.st, .int .i64 c.fr, .bool c.sl] rfl (ten_cells (DE.out.res.put c)) Try.underlying31 rfl (by kernel_rfl)) rfl ?_
    exact ⟨c, rfl, DE.out.done c⟩
set_option maxHeartbeats 400000 in
theorem l10DrawAck_acc {B : Nat} {a0 : Option Addr} {len cap b : Nat} {w0 w : World} (c : Cur B a0 len cap b w) (o : Only b w0 w) :
    Calls Try.prog 49 #[.pointer (some ⟨b, 0, none⟩)] w fun e w' => ∃ x : Int, e = .returned (.int .i64 x) ∧ Cur B a0 len cap b w' ∧ Only b w0 w' := by
  go_enter Try.func49, Try.ntmps49
  go_wp2_with (first
    | (go_at_call 66; refine (once_acc _ (by assumption) (by assumption) (by omega) (by omega)).mono ?_; rintro e w2 ⟨f, rfl, c, o⟩; cases f)
    | (go_at_call_of 65 (Value.int IntKind.i64 20000); refine (below_acc _ (by assumption) (by assumption) (by omega) (by omega)).mono ?_; rintro e w2 ⟨x, rfl, hx, c, o⟩)
    | (go_at_call_of 65 (Value.int IntKind.i64 5); refine (below_acc 5 (Cur.alloc (by assumption) _) (Only.refl _ _) (by omega) (by omega)).mono ?_; rintro e w3 ⟨x, rfl, hx, c3, o3⟩; obtain ⟨X, rfl⟩ := Int.eq_ofNat_of_zero_le hx.1; obtain ⟨y, hy⟩ := ackTab_in X (by omega); have hcell := (table_cell (Cur.hi (by assumption)) o3 X).trans hy; clear hy))
  all_goals go_ret
  all_goals first | exact ⟨_, rfl, c3, (o.alloc _).trans o3⟩ | exact ⟨_, rfl, c, o⟩
set_option maxHeartbeats 400000 in
theorem drawSize10_acc {B : Nat} {a0 : Option Addr} {len cap b : Nat} {w0 w : World} (c : Cur B a0 len cap b w) (o : Only b w0 w) :
    Calls Try.prog 60 #[.pointer (some ⟨b, 0, none⟩)] w fun e w' => ∃ x : Int, e = .returned (.int .i64 x) ∧ Cur B a0 len cap b w' ∧ Only b w0 w' := by
  go_enter Try.func60, Try.ntmps60
  go_wp2_with (first
    | (go_at_call 66; refine (once_acc _ (by assumption) (by assumption) (by omega) (by omega)).mono ?_; rintro e w2 ⟨f, rfl, c, o⟩; cases f)
    | (go_at_call_of 65 (Value.int IntKind.i64 1500); refine (below_acc _ (by assumption) (by assumption) (by omega) (by omega)).mono ?_; rintro e w2 ⟨x, rfl, hx, c, o⟩)
    | (go_at_call_of 65 (Value.int IntKind.i64 6); refine (below_acc 6 (Cur.alloc (by assumption) _) (Only.refl _ _) (by omega) (by omega)).mono ?_; rintro e w3 ⟨x, rfl, hx, c3, o3⟩; obtain ⟨X, rfl⟩ := Int.eq_ofNat_of_zero_le hx.1; obtain ⟨y, hy⟩ := sizeTab10_in X (by omega); have hcell := (table_cell (Cur.hi (by assumption)) o3 X).trans hy; clear hy))
  all_goals go_ret
  all_goals first | exact ⟨_, rfl, c3, (o.alloc _).trans o3⟩ | exact ⟨_, rfl, c, o⟩
end Go.Proofs.Ytmophpbfaonfmae
