/- The draw of MulDiv's arguments: whatever the bytes, three numbers of 64 bits; nothing that was there is written. -/
import Derived.Test.YtcacalfckflkmaaDraws1
namespace Go.Proofs.Ytcacalfckflkmaa
open Go.ChangeShapes Go.WideShapes Go.ChangeAt Go.RowKit
set_option linter.unusedVariables false

theorem Only.setNew {b : Nat} {w w' : World} (h : Only b w w') {p : Addr} (hp : w.heap.size ≤ p.block) (u : Value) : Only b w (w'.setCell p u) := by
  have hs : w'.heap.size = (w'.setCell p u).heap.size := by simp
  have k := (Below.refl w.heap.size w').setCell (p := p) hp u
  refine ⟨k.os.trans h.os, k.tape.trans h.tape, k.output.trans h.output, by rw [← hs]; exact h.size, fun i hi hb => ?_⟩
  rw [Below.heap_setCell _ _ _ _ (by omega)]; exact h.block i hi hb
theorem Cur.setNew {B : Nat} {a0 : Option Addr} {len cap b : Nat} {w : World} (c : Cur B a0 len cap b w) {p : Addr} (hp : p.block ≠ b) (hB : B ≤ p.block) (u : Value) : Cur B a0 len cap b (w.setCell p u) where
  small := c.small
  lo := c.lo
  hi := by have := c.hi; simpa using this
  val := by
    obtain ⟨i, v, h0, h1, h2, h3⟩ := c.val
    have e : ∀ j, (w.setCell p u).cell? ⟨b, j, none⟩ = w.cell? ⟨b, j, none⟩ := fun j => World.cell?_of_block (w := w) (Below.heap_setCell _ _ _ _ (by exact hp.symm))
    exact ⟨i, v, (e 0).trans h0, (e 1).trans h1, (e 2).trans h2, h3⟩
  fr := fun j => (World.frozen?_of_block (w := w) (Below.heap_setCell _ _ _ _ (by exact hp.symm))).trans (c.fr j)
  row := fun i hi => by
    obtain ⟨xb, xo, z, e, hx, hc, hz⟩ := c.row i hi
    exact ⟨xb, xo, z, e, hx, (World.cell?_of_block (w := w) (Below.heap_setCell _ _ _ _ (by show xb ≠ p.block; omega))).trans hc, hz⟩

theorem mdTab_in (X : Nat) (h : X < 7) : ∃ y : Int, (#[Value.int IntKind.i64 9223372036854775807, Value.int IntKind.i64 4611686018427387904, Value.int IntKind.i64 4294967296, Value.int IntKind.i64 3037000500, Value.int IntKind.i64 1, Value.int IntKind.i64 0, Value.int IntKind.i64 (-1)] : Array Value)[X]? = some (.int .i64 y) ∧ I64 y := by
  match X, h with
  | 0, _ => exact ⟨_, rfl, by unfold I64; decide⟩
  | 1, _ => exact ⟨_, rfl, by unfold I64; decide⟩
  | 2, _ => exact ⟨_, rfl, by unfold I64; decide⟩
  | 3, _ => exact ⟨_, rfl, by unfold I64; decide⟩
  | 4, _ => exact ⟨_, rfl, by unfold I64; decide⟩
  | 5, _ => exact ⟨_, rfl, by unfold I64; decide⟩
  | 6, _ => exact ⟨_, rfl, by unfold I64; decide⟩

/-- The three cells of a list at block L. -/
structure Three (L : Nat) (x0 x1 x2 : Int) (w : World) : Prop where
  lt : L < w.heap.size
  c0 : w.cell? ⟨L, 0, none⟩ = some (.int .i64 x0)
  c1 : w.cell? ⟨L, 1, none⟩ = some (.int .i64 x1)
  c2 : w.cell? ⟨L, 2, none⟩ = some (.int .i64 x2)
  fr : ∀ j, w.frozen? ⟨L, j, none⟩ = false
theorem Three.only {L b : Nat} {x0 x1 x2 : Int} {w w' : World} (t : Three L x0 x1 x2 w) (hne : L ≠ b) (o : Only b w w') : Three L x0 x1 x2 w' :=
  ⟨Nat.lt_of_lt_of_le t.lt o.size, (o.cell t.lt hne).trans t.c0, (o.cell t.lt hne).trans t.c1, (o.cell t.lt hne).trans t.c2, fun j => (o.frozen t.lt hne).trans (t.fr j)⟩

theorem three_new (w : World) (x y z : Int) (t : TypeId) : Three w.heap.size x y z (w.alloc (.cells #[.int .i64 x, .int .i64 y, .int .i64 z] t)) := by
  refine ⟨by simp, ?_, ?_, ?_, ?_⟩
  all_goals first | (go_simp; done) | (intro j; go_simp; done)

set_option maxHeartbeats 1000000 in
theorem drawMulDiv_any {B : Nat} {a0 : Option Addr} {len : Nat} (cap : Nat) {w : World} (hs : len ≤ 4096) (row : Row B a0 len w) (hB : B ≤ w.heap.size) :
    Calls Try.prog 11 #[.slice a0 len cap] w fun e w' => ∃ x y z : Int, e = .returned (.tuple #[.int .i64 x, .int .i64 y, .int .i64 z]) ∧ I64 x ∧ I64 y ∧ I64 z ∧ Below w.heap.size w w' := by
  go_enter Try.func11, Try.ntmps11
  go_wp2_with (first
    | (go_at_call 23; refine (new_any cap hs row hB).mono ?_; rintro e w1 ⟨b, rfl, hb, c, hb1⟩; have o := Only.refl b w1)
    | (go_at_call 27; refine (below_acc _ (by assumption) (by assumption) (by omega) (by omega)).mono ?_; rintro e w2 ⟨x, rfl, hx, c, o⟩))
  have hbh := c.hi
  have hne : w2.heap.size ≠ b := by omega
  have hw2 : w1.heap.size ≤ w2.heap.size := o.size
  have hBL : B ≤ w2.heap.size := by have := c.lo; omega
  go_loopw [7] (fun si wr => ∃ (k : Nat) (x0 x1 x2 : Int), si = .int .i64 k ∧ k ≤ 3 ∧ Three w2.heap.size x0 x1 x2 wr ∧ I64 x0 ∧ I64 x1 ∧ I64 x2 ∧ Cur B a0 len cap b wr ∧ Only b w1 wr) (fun i _ => 3 - (intOf i).toNat)
  case atStart =>
    exact ⟨0, _, _, _, rfl, by omega, three_new _ _ _ _ _, by unfold I64; omega, by unfold I64; omega, by unfold I64; omega, c.alloc _, o.alloc _⟩
  case round =>
    obtain ⟨k, x0, x1, x2, rfl, hk, t3, i0, i1, i2, cr, or1⟩ := hrel
    clear c o
    rcases (by omega : k = 0 ∨ k = 1 ∨ k = 2 ∨ k = 3) with rfl | rfl | rfl | rfl
    · go_wp2_with (first
        | (go_at_call 25; refine (once_acc _ cr (Only.refl _ _) (by omega) (by omega)).mono ?_; rintro e w5 ⟨f, rfl, c5, o5⟩; have t5 := t3.only hne o5; cases f)
        | (go_at_call 27; refine (below_acc 7 (c5.alloc _) (Only.refl _ _) (by omega) (by omega)).mono ?_; rintro e w6 ⟨x, rfl, hx6, c6, o6⟩; obtain ⟨X, rfl⟩ := Int.eq_ofNat_of_zero_le hx6.1; obtain ⟨y, hy, hby⟩ := mdTab_in X (by omega); have hcell := (table_cell c5.hi o6 X).trans hy; clear hy; have t6 := (t5.only hne ((Only.refl b w5).alloc _)).only hne o6; have q0 := t6.c0; have q1 := t6.c1; have q2 := t6.c2; have qf := t6.fr))
      · go_roundw
        case rel => exact ⟨1, x0, x1, x2, by go_num, by omega, t5, i0, i1, i2, c5, or1.trans o5⟩
        case measure => first | (simp [intOf]; done) | (simp [intOf]; omega)
      · go_roundw
        case rel =>
          refine ⟨1, y, x1, x2, by go_num, by omega, ⟨by have := t6.lt; simpa using this, ?_, ?_, ?_, ?_⟩, hby, i1, i2, c6.setNew hne hBL _, (((or1.trans o5).alloc _).trans o6).setNew hw2 _⟩
          all_goals first | (go_simp; done) | (intro j; go_simp; done)
        case measure => first | (simp [intOf]; done) | (simp [intOf]; omega)
    · go_wp2_with (first
        | (go_at_call 25; refine (once_acc _ cr (Only.refl _ _) (by omega) (by omega)).mono ?_; rintro e w5 ⟨f, rfl, c5, o5⟩; have t5 := t3.only hne o5; cases f)
        | (go_at_call 27; refine (below_acc 7 (c5.alloc _) (Only.refl _ _) (by omega) (by omega)).mono ?_; rintro e w6 ⟨x, rfl, hx6, c6, o6⟩; obtain ⟨X, rfl⟩ := Int.eq_ofNat_of_zero_le hx6.1; obtain ⟨y, hy, hby⟩ := mdTab_in X (by omega); have hcell := (table_cell c5.hi o6 X).trans hy; clear hy; have t6 := (t5.only hne ((Only.refl b w5).alloc _)).only hne o6; have q0 := t6.c0; have q1 := t6.c1; have q2 := t6.c2; have qf := t6.fr))
      · go_roundw
        case rel => exact ⟨2, x0, x1, x2, by go_num, by omega, t5, i0, i1, i2, c5, or1.trans o5⟩
        case measure => first | (simp [intOf]; done) | (simp [intOf]; omega)
      · go_roundw
        case rel =>
          refine ⟨2, x0, y, x2, by go_num, by omega, ⟨by have := t6.lt; simpa using this, ?_, ?_, ?_, ?_⟩, i0, hby, i2, c6.setNew hne hBL _, (((or1.trans o5).alloc _).trans o6).setNew hw2 _⟩
          all_goals first | (go_simp; done) | (intro j; go_simp; done)
        case measure => first | (simp [intOf]; done) | (simp [intOf]; omega)
    · go_wp2_with (first
        | (go_at_call 25; refine (once_acc _ cr (Only.refl _ _) (by omega) (by omega)).mono ?_; rintro e w5 ⟨f, rfl, c5, o5⟩; have t5 := t3.only hne o5; cases f)
        | (go_at_call 27; refine (below_acc 7 (c5.alloc _) (Only.refl _ _) (by omega) (by omega)).mono ?_; rintro e w6 ⟨x, rfl, hx6, c6, o6⟩; obtain ⟨X, rfl⟩ := Int.eq_ofNat_of_zero_le hx6.1; obtain ⟨y, hy, hby⟩ := mdTab_in X (by omega); have hcell := (table_cell c5.hi o6 X).trans hy; clear hy; have t6 := (t5.only hne ((Only.refl b w5).alloc _)).only hne o6; have q0 := t6.c0; have q1 := t6.c1; have q2 := t6.c2; have qf := t6.fr))
      · go_roundw
        case rel => exact ⟨3, x0, x1, x2, by go_num, by omega, t5, i0, i1, i2, c5, or1.trans o5⟩
        case measure => first | (simp [intOf]; done) | (simp [intOf]; omega)
      · go_roundw
        case rel =>
          refine ⟨3, x0, x1, y, by go_num, by omega, ⟨by have := t6.lt; simpa using this, ?_, ?_, ?_, ?_⟩, i0, i1, hby, c6.setNew hne hBL _, (((or1.trans o5).alloc _).trans o6).setNew hw2 _⟩
          all_goals first | (go_simp; done) | (intro j; go_simp; done)
        case measure => first | (simp [intOf]; done) | (simp [intOf]; omega)
    · have q0 := t3.c0
      have q1 := t3.c1
      have q2 := t3.c2
      go_wp2
      go_quiet (fail)
      go_wp2
      go_ret3
      exact ⟨_, _, _, rfl, i0, i1, i2, hb1.trans ((or1.drewN _).below hb hb1.size)⟩
end Go.Proofs.Ytcacalfckflkmaa
