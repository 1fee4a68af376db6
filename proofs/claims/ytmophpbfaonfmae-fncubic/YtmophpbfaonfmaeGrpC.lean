/- Lemmas on the way, of several texts: Cur, Draw, New, Smp, ImplIn. -/
import Derived.Test.YtmophpbfaonfmaeRows
import Derived.Test.YtmophpbfaonfmaeGrpB
import Derived.Deep.QuietTactic
import Derived.BigQuiet
import Derived.Outline
import Derived.LoopN
import Derived.Handy
import Derived.WalkSmall
import Derived.Test.YtmophpbfaonfmaeGrpA
namespace Go.Proofs.Ytmophpbfaonfmae
open Go.ChangeShapes Go.WideShapes Go.ChangeAt Go.RowKit
set_option maxRecDepth 100000
set_option linter.unusedVariables false

/-- Of all old blocks at most block b has turned. -/
structure Only (b : Nat) (w w' : World) : Prop where
  os : w'.os = w.os
  tape : w'.tape = w.tape
  output : w'.output = w.output
  size : w.heap.size ≤ w'.heap.size
  block : ∀ k, k < w.heap.size → k ≠ b → w'.heap[k]? = w.heap[k]?

theorem Only.refl (b : Nat) (w : World) : Only b w w := ⟨rfl, rfl, rfl, Nat.le_refl _, fun _ _ _ => rfl⟩
theorem Only.trans {b : Nat} {u v w : World} (h : Only b u v) (k : Only b v w) : Only b u w :=
  ⟨k.os.trans h.os, k.tape.trans h.tape, k.output.trans h.output, Nat.le_trans h.size k.size, fun i hi hb => (k.block i (Nat.lt_of_lt_of_le hi h.size) hb).trans (h.block i hi hb)⟩
theorem Only.of_below {b : Nat} {w w' : World} (h : Below w.heap.size w w') : Only b w w' := ⟨h.os, h.tape, h.output, h.size, fun k hk _ => h.block k hk⟩
theorem Only.below {b B : Nat} {w w' : World} (h : Only b w w') (hb : B ≤ b) (hB : B ≤ w.heap.size) : Below B w w' :=
  ⟨h.os, h.tape, h.output, h.size, fun k hk => h.block k (by omega) (by omega)⟩
theorem Only.drewN {b : Nat} {w w' : World} (h : Only b w w') (n : Nat) : Only b w (w'.drewN n) := ⟨h.os, h.tape, h.output, h.size, h.block⟩
theorem Only.setCell {b : Nat} {w w' : World} (h : Only b w w') {p : Addr} (hp : p.block = b) (u : Value) : Only b w (w'.setCell p u) := by
  have hs : w'.heap.size = (w'.setCell p u).heap.size := by simp
  have k := (Below.refl b w').setCell (p := p) (by omega) u
  refine ⟨k.os.trans h.os, k.tape.trans h.tape, k.output.trans h.output, by rw [← hs]; exact h.size, fun i hi hb => ?_⟩
  rw [Below.heap_setCell _ _ _ _ (by omega)]; exact h.block i hi hb
theorem Only.cell {b : Nat} {w w' : World} (h : Only b w w') {p : Addr} (hp : p.block < w.heap.size) (hb : p.block ≠ b) : w'.cell? p = w.cell? p := World.cell?_of_block (w := w) (h.block p.block hp hb)
theorem Only.frozen {b : Nat} {w w' : World} (h : Only b w w') {p : Addr} (hp : p.block < w.heap.size) (hb : p.block ≠ b) : w'.frozen? p = w.frozen? p := World.frozen?_of_block (w := w) (h.block p.block hp hb)

/-- Block b holds a cursor over the row of len bytes at a0, which lies below block B. -/
structure Cur (B : Nat) (a0 : Option Addr) (len cap b : Nat) (w : World) : Prop where
  small : len ≤ 4096
  lo : B ≤ b
  hi : b < w.heap.size
  val : ∃ i : Nat, ∃ h : Int, w.cell? ⟨b, 0, none⟩ = some (.slice a0 len cap) ∧ w.cell? ⟨b, 1, none⟩ = some (.int .i64 i) ∧ w.cell? ⟨b, 2, none⟩ = some (.int .i64 h) ∧ i ≤ len
  fr : ∀ j, w.frozen? ⟨b, j, none⟩ = false
  row : ∀ i : Nat, i < len → ∃ (xb xo : Nat) (z : Int), a0 = some ⟨xb, xo, none⟩ ∧ xb < B ∧ w.cell? ⟨xb, xo + i, none⟩ = some (.int .u8 z) ∧ 0 ≤ z ∧ z ≤ 255

theorem Cur.mono {B : Nat} {a0 : Option Addr} {len cap b : Nat} {w w' : World} (c : Cur B a0 len cap b w) (h : Below w.heap.size w w') : Cur B a0 len cap b w' where
  small := c.small
  lo := c.lo
  hi := Nat.lt_of_lt_of_le c.hi h.size
  val := by
    obtain ⟨i, v, h0, h1, h2, h3⟩ := c.val
    have hb := c.hi
    exact ⟨i, v, (h.cell (by exact hb)).trans h0, (h.cell (by exact hb)).trans h1, (h.cell (by exact hb)).trans h2, h3⟩
  fr := fun j => (h.frozen (by exact c.hi)).trans (c.fr j)
  row := fun i hi => by
    obtain ⟨xb, xo, z, e, hx, hc, hz⟩ := c.row i hi
    have h1 := c.lo; have h2 := c.hi
    exact ⟨xb, xo, z, e, hx, (h.cell (by show xb < _; omega)).trans hc, hz⟩

theorem Cur.turn {B : Nat} {a0 : Option Addr} {len cap b : Nat} {w w' : World} (c : Cur B a0 len cap b w) (o : Only b w w') (i : Nat) (h : Int) (h0 : w'.cell? ⟨b, 0, none⟩ = some (.slice a0 len cap))
    (h1 : w'.cell? ⟨b, 1, none⟩ = some (.int .i64 i)) (h2 : w'.cell? ⟨b, 2, none⟩ = some (.int .i64 h)) (hi : i ≤ len) (fr : ∀ j, w'.frozen? ⟨b, j, none⟩ = false) : Cur B a0 len cap b w' where
  small := c.small
  lo := c.lo
  hi := Nat.lt_of_lt_of_le c.hi o.size
  val := ⟨i, h, h0, h1, h2, hi⟩
  fr := fr
  row := fun i hi => by
    obtain ⟨xb, xo, z, e, hx, hc, hz⟩ := c.row i hi
    have h1 := c.lo; have h2 := c.hi
    exact ⟨xb, xo, z, e, hx, (o.cell (by show xb < _; omega) (by show xb ≠ _; omega)).trans hc, hz⟩

theorem Cur.fin {B : Nat} {a0 : Option Addr} {len cap b : Nat} {w w' : World} (c : Cur B a0 len cap b w) (i : Nat) (h : Int) (o : Only b w w') (h0 : w'.cell? ⟨b, 0, none⟩ = some (.slice a0 len cap))
    (h1 : w'.cell? ⟨b, 1, none⟩ = some (.int .i64 i)) (h2 : w'.cell? ⟨b, 2, none⟩ = some (.int .i64 h)) (hi : i ≤ len) (fr : ∀ j, w'.frozen? ⟨b, j, none⟩ = false) : Cur B a0 len cap b w' ∧ Only b w w' :=
  ⟨c.turn o i h h0 h1 h2 hi fr, o⟩

theorem and255_i64 (n : Int) : bits .and .i64 n 255 = n % 256 := by
  have h255 : (BitVec.ofInt 64 255).toNat = 2 ^ 8 - 1 := by decide
  have key : (BitVec.ofInt 64 n &&& BitVec.ofInt 64 255).toNat = (n % ((2 ^ 64 : Nat) : Int)).toNat % 2 ^ 8 := by
    rw [BitVec.toNat_and, BitVec.toNat_ofInt, h255, Nat.and_two_pow_sub_one_eq_mod]
  show IntKind.i64.wrap ((BitVec.ofInt 64 n &&& BitVec.ofInt 64 255).toNat : Nat) = n % 256
  rw [key, IntKind.wrap_i64]
  omega

set_option maxHeartbeats 1000000 in
theorem byte_any {B : Nat} {a0 : Option Addr} {len cap b : Nat} {w : World} (c : Cur B a0 len cap b w) :
    Calls Try.prog 80 #[.pointer (some ⟨b, 0, none⟩)] w fun e w' => ∃ x : Int, e = .returned (.int .i64 x) ∧ (0 ≤ x ∧ x ≤ 255) ∧ Cur B a0 len cap b w' ∧ Only b w w' := by
  obtain ⟨i, h, c0, c1, c2, hi⟩ := c.val
  have ff := c.fr
  have hs := c.small
  have hand := and255_i64
  by_cases hlt : i < len
  · obtain ⟨xb, xo, z, rfl, hx, cz, z0, z1⟩ := c.row i hlt
    have hlt' : (i : Int) < (len : Int) := by omega
    have hne : xb ≠ b := by have := c.lo; omega
    go_enter Try.func80, Try.ntmps80
    go_wp2
    generalize wrap64 (wrap64 (h * 6364136223846793005) + 1442695040888963407) = h'
    go_quiet (fail)
    go_wp2
    generalize bits BinOp.xor IntKind.i64 (h' / 8589934592) (h' / 35184372088832) = X
    go_quiet (fail)
    go_wp2
    go_quiet (fail)
    go_wp2
    go_ret
    refine ⟨_, rfl, by omega, c.fin (i + 1) h' ?_ ?_ ?_ ?_ (by omega) ?_⟩
    · repeat' (first | exact Only.refl _ _ | refine Only.drewN ?_ _ | refine Only.setCell ?_ ?_ _ | rfl)
    all_goals first | (go_simp; done) | (intro j; go_simp; done)
  · have hge : ¬ (i : Int) < (len : Int) := by omega
    go_enter Try.func80, Try.ntmps80
    go_wp2
    generalize wrap64 (wrap64 (h * 6364136223846793005) + 1442695040888963407) = h'
    go_quiet (fail)
    go_wp2
    generalize bits BinOp.xor IntKind.i64 (h' / 8589934592) (h' / 35184372088832) = X
    go_quiet (fail)
    go_wp2
    go_ret
    refine ⟨_, rfl, by omega, c.fin i h' ?_ ?_ ?_ ?_ (by omega) ?_⟩
    · repeat' (first | exact Only.refl _ _ | refine Only.drewN ?_ _ | refine Only.setCell ?_ ?_ _ | rfl)
    all_goals first | (go_simp; done) | (intro j; go_simp; done)
end Go.Proofs.Ytmophpbfaonfmae
namespace Go.Proofs.Ytmophpbfaonfmae
open Go.ChangeShapes Go.WideShapes Go.ChangeAt Go.RowKit
set_option maxRecDepth 100000
set_option linter.unusedVariables false

theorem byte_acc {B : Nat} {a0 : Option Addr} {len cap b : Nat} {w0 w : World} (c : Cur B a0 len cap b w) (o : Only b w0 w) :
    Calls Try.prog 80 #[.pointer (some ⟨b, 0, none⟩)] w fun e w' => ∃ x : Int, e = .returned (.int .i64 x) ∧ (0 ≤ x ∧ x ≤ 255) ∧ Cur B a0 len cap b w' ∧ Only b w0 w' := by
  refine (byte_any c).mono ?_
  rintro e w' ⟨x, rfl, hx, c', o'⟩
  exact ⟨x, rfl, hx, c', o.trans o'⟩

set_option maxHeartbeats 400000 in
theorem below_acc {B : Nat} {a0 : Option Addr} {len cap b : Nat} {w0 w : World} (n : Int) (c : Cur B a0 len cap b w) (o : Only b w0 w) (n0 : 1 ≤ n) (n1 : n ≤ 9223372036854775807) :
    Calls Try.prog 65 #[.pointer (some ⟨b, 0, none⟩), .int .i64 n] w fun e w' => ∃ x : Int, e = .returned (.int .i64 x) ∧ (0 ≤ x ∧ x < n) ∧ Cur B a0 len cap b w' ∧ Only b w0 w' := by
  have hm := fun y : Int => Int.emod_nonneg y (show n ≠ 0 by omega)
  have hl := fun y : Int => Int.emod_lt_of_pos y (show 0 < n by omega)
  by_cases h : n ≤ 256
  · have hne : (n == 0) = false := by simp; omega
    go_enter Try.func65, Try.ntmps65
    go_wp2_with (go_at_call 80; refine (byte_acc (by assumption) (by assumption)).mono ?_; rintro e w1 ⟨x, rfl, hx, c', o'⟩)
    go_ret
    exact ⟨_, rfl, ⟨hm _, hl _⟩, c', o'⟩
  · have hne : (n == 0) = false := by simp; omega
    go_enter Try.func65, Try.ntmps65
    go_wp2_with (go_at_call 80; refine (byte_acc (by assumption) (by assumption)).mono ?_; rintro e w1 ⟨x, rfl, hx, c', o'⟩)
    go_ret
    exact ⟨_, rfl, ⟨hm _, hl _⟩, c', o'⟩

theorem once_acc {B : Nat} {a0 : Option Addr} {len cap b : Nat} {w0 w : World} (n : Int) (c : Cur B a0 len cap b w) (o : Only b w0 w) (n0 : 1 ≤ n) (n1 : n ≤ 9223372036854775807) :
    Calls Try.prog 66 #[.pointer (some ⟨b, 0, none⟩), .int .i64 n] w fun e w' => ∃ x : Bool, e = .returned (.bool x) ∧ Cur B a0 len cap b w' ∧ Only b w0 w' := by
  go_enter Try.func66, Try.ntmps66
  go_wp2_with (go_at_call 65; refine (below_acc _ (by assumption) (by assumption) n0 n1).mono ?_; rintro e w1 ⟨x, rfl, hx, c', o'⟩)
  go_ret
  exact ⟨_, rfl, c', o'⟩

theorem from_acc {B : Nat} {a0 : Option Addr} {len cap b : Nat} {w0 w : World} (l h : Int) (c : Cur B a0 len cap b w) (o : Only b w0 w) (h1 : l ≤ h) (h2 : -1000000000000000000 ≤ l) (h3 : h ≤ 1000000000000000000) :
    Calls Try.prog 63 #[.pointer (some ⟨b, 0, none⟩), .int .i64 l, .int .i64 h] w fun e w' => ∃ x : Int, e = .returned (.int .i64 x) ∧ (l ≤ x ∧ x ≤ h) ∧ Cur B a0 len cap b w' ∧ Only b w0 w' := by
  go_enter Try.func63, Try.ntmps63
  go_wp2_with (go_at_call 65; refine (below_acc _ (by assumption) (by assumption) (by omega) (by omega)).mono ?_; rintro e w1 ⟨x, rfl, hx, c', o'⟩)
  go_ret
  exact ⟨_, rfl, by omega, c', o'⟩


theorem new_below (w : World) (o : Obj) : Below w.heap.size w (w.alloc o) := (Below.refl _ _).alloc (Nat.le_refl _) _
theorem Cur.alloc {B : Nat} {a0 : Option Addr} {len cap b : Nat} {w : World} (c : Cur B a0 len cap b w) (o : Obj) : Cur B a0 len cap b (w.alloc o) := c.mono (new_below w o)
theorem Only.alloc {b : Nat} {w0 w : World} (h : Only b w0 w) (o : Obj) : Only b w0 (w.alloc o) := h.trans (Only.of_below (new_below w o))

/-- A cell of a table that was laid ahead of a draw. -/
theorem table_cell {b : Nat} {w w1 : World} {arr : Array Value} {t : TypeId} (hb : b < w.heap.size) (o : Only b (w.alloc (.cells arr t)) w1) (k : Nat) : w1.cell? ⟨w.heap.size, k, none⟩ = arr[k]? := by
  rw [o.cell (by show w.heap.size < _; simp) (by show w.heap.size ≠ b; omega)]
  exact World.cell?_alloc_at _ _ _ _ rfl

theorem odd_in (X : Nat) (h : X < 10) : ∃ y : Int, (#[Value.int IntKind.i64 (-1), Value.int IntKind.i64 0, Value.int IntKind.i64 1,
          Value.int IntKind.i64 2147483648, Value.int IntKind.i64 (-2147483648), Value.int IntKind.i64 1099511627776,
          Value.int IntKind.i64 4611686018427387904, Value.int IntKind.i64 (-4611686018427387904),
          Value.int IntKind.i64 9223372036854775807, Value.int IntKind.i64 (-9223372036854775808)] : Array Value)[X]? = some (.int .i64 y) ∧ (-9223372036854775808 ≤ y ∧ y ≤ 9223372036854775807) := by
  match X, h with
  | 0, _ => exact ⟨_, rfl, by decide⟩
  | 1, _ => exact ⟨_, rfl, by decide⟩
  | 2, _ => exact ⟨_, rfl, by decide⟩
  | 3, _ => exact ⟨_, rfl, by decide⟩
  | 4, _ => exact ⟨_, rfl, by decide⟩
  | 5, _ => exact ⟨_, rfl, by decide⟩
  | 6, _ => exact ⟨_, rfl, by decide⟩
  | 7, _ => exact ⟨_, rfl, by decide⟩
  | 8, _ => exact ⟨_, rfl, by decide⟩
  | 9, _ => exact ⟨_, rfl, by decide⟩

end Go.Proofs.Ytmophpbfaonfmae
namespace Go.Proofs.Ytmophpbfaonfmae
open Go.ChangeShapes Go.WideShapes Go.ChangeAt Go.RowKit
set_option maxRecDepth 100000
set_option linter.unusedVariables false

/-- The row of len bytes at a0 lies below block B. -/
def Row (B : Nat) (a0 : Option Addr) (len : Nat) (w : World) : Prop :=
  ∀ i : Nat, i < len → ∃ (xb xo : Nat) (z : Int), a0 = some ⟨xb, xo, none⟩ ∧ xb < B ∧ w.cell? ⟨xb, xo + i, none⟩ = some (.int .u8 z) ∧ 0 ≤ z ∧ z ≤ 255
theorem Row.mono {B : Nat} {a0 : Option Addr} {len : Nat} {w w' : World} (r : Row B a0 len w) (h : Below B w w') : Row B a0 len w' := fun i hi => by
  obtain ⟨xb, xo, z, e, hx, hc, hz⟩ := r i hi
  exact ⟨xb, xo, z, e, hx, (h.cell (by exact hx)).trans hc, hz⟩
/-- A number of 64 bits. -/
def I64 (x : Int) : Prop := -9223372036854775808 ≤ x ∧ x ≤ 9223372036854775807
theorem I64_wrap (x : Int) : I64 (wrap64 x) := by unfold I64 wrap64; omega

set_option maxHeartbeats 400000 in
theorem new_any {B : Nat} {a0 : Option Addr} {len : Nat} (cap : Nat) {w : World} (hs : len ≤ 4096) (row : Row B a0 len w) (hB : B ≤ w.heap.size) :
    Calls Try.prog 47 #[.slice a0 len cap] w fun e w' => ∃ b, e = .returned (.pointer (some ⟨b, 0, none⟩)) ∧ w.heap.size ≤ b ∧ Cur B a0 len cap b w' ∧ Below w.heap.size w w' := by
  go_enter Try.func47, Try.ntmps47
  go_wp2
  go_loop [3, 4] (fun sh si => ∃ (k : Nat) (v : Int), si = .int .i64 k ∧ k ≤ len ∧ sh = .int .i64 v) (fun _ i => len - (intOf i).toNat)
  case atStart => exact ⟨0, _, rfl, by omega, rfl⟩
  case round =>
    obtain ⟨k, v, rfl, hk, rfl⟩ := hrel
    by_cases hlt : k < len
    · obtain ⟨xb, xo, z, rfl, hx, cz, z0, z1⟩ := row k hlt
      have hlt' : (k : Int) < (len : Int) := by omega
      go_wp2
      go_round
      case rel => exact ⟨k + 1, _, by go_num, by omega, rfl⟩
      case measure => first | (simp [intOf]; done) | (simp [intOf]; omega)
    · have e : k = len := by omega
      subst e
      go_wp2
      go_ret
      refine ⟨_, rfl, Nat.le_refl _, ⟨hs, hB, by simp, ⟨0, v, ?_, ?_, ?_, by omega⟩, ?_, row.mono ((Below.refl _ _).alloc hB _)⟩, new_below _ _⟩
      all_goals first | (go_simp; done) | (intro j; go_simp; done)
end Go.Proofs.Ytmophpbfaonfmae
namespace Go.Proofs.Ytmophpbfaonfmae
open Go.ChangeShapes Go.WideShapes Go.ChangeAt Go.RowKit
set_option maxRecDepth 100000
set_option linter.unusedVariables false

/-- The pairs xs lie at a, below block B. -/
def Smp (B : Nat) (w : World) (a : Option Addr) (xs : List (Int × Int)) : Prop :=
  ∀ i (h : i < xs.length), ∃ b off, a = some ⟨b, off, none⟩ ∧ b < B ∧ w.cell? ⟨b, off + i * 2, none⟩ = some (.int .i64 xs[i].1) ∧ w.cell? ⟨b, off + i * 2 + 1, none⟩ = some (.int .i64 xs[i].2)
theorem Smp.first {B : Nat} {w : World} {a : Option Addr} {x : Int × Int} {xs : List (Int × Int)} (h : Smp B w a (x :: xs)) (hB : B ≤ w.heap.size) :
    ∃ b off, a = some ⟨b, off, none⟩ ∧ b < w.heap.size ∧ w.cell? ⟨b, off, none⟩ = some (.int .i64 x.1) ∧ w.cell? ⟨b, off + 1, none⟩ = some (.int .i64 x.2) := by
  obtain ⟨b, off, rfl, hb, c0, c1⟩ := h 0 (by simp)
  exact ⟨b, off, rfl, by omega, by simpa using c0, by simpa using c1⟩
def bestOf (xs : List (Int × Int)) : Int := match xs with | [] => 0 | x :: _ => x.2
/-- How long ago the first one was. -/
def timeB (x : Int) : Bool := decide (0 ≤ x) && decide (x ≤ 1000000000000000)
def rateB (x : Int) : Bool := decide (0 ≤ x) && decide (x ≤ 1000000000000)
def sinceOf (xs : List (Int × Int)) (at' : Int) : Int := match xs with | [] => -1 | x :: _ => if timeB x.1 = true ∧ timeB at' = true ∧ x.1 ≤ at' then at' - x.1 else -1
theorem in_any (lo x hi : Int) (w : World) : Calls Try.prog 52 #[.int .i64 x, .int .i64 lo, .int .i64 hi] w fun e w' => e = .returned (.bool (decide (lo ≤ x) && decide (x ≤ hi))) ∧ w' = w := by
  by_cases h1 : lo ≤ x
  · by_cases h2 : x ≤ hi
    · rw [decide_eq_true h1, decide_eq_true h2]
      go_enter Try.func52, Try.ntmps52
      go_wp2
      go_ret
      exact ⟨rfl, rfl⟩
    · have h2' : decide (x ≤ hi) = false := decide_eq_false h2
      rw [decide_eq_true h1, h2']
      go_enter Try.func52, Try.ntmps52
      go_wp2
      go_ret
      exact ⟨rfl, rfl⟩
  · have h1' : decide (lo ≤ x) = false := decide_eq_false h1
    rw [h1']
    go_enter Try.func52, Try.ntmps52
    go_wp2
    go_ret
    exact ⟨rfl, rfl⟩
theorem time_any (x : Int) (w : World) : Calls Try.prog 59 #[.int .i64 x] w fun e w' => e = .returned (.bool (timeB x)) ∧ w' = w := by
  go_enter Try.func59, Try.ntmps59
  go_wp2_with (first | (go_at_call 52; refine (in_any _ _ _ _).mono ?_; rintro e w2 ⟨rfl, rfl⟩))
  go_ret
  exact ⟨rfl, rfl⟩
end Go.Proofs.Ytmophpbfaonfmae
namespace Go.Proofs.Ytmophpbfaonfmae
open Go.ChangeShapes Go.WideShapes Go.ChangeAt Go.RowKit
set_option maxRecDepth 100000
set_option linter.unusedVariables false

theorem iwithin_any (lo x hi : Int) (w : World) : Calls Try.prog 46 #[.int .i64 x, .int .i64 lo, .int .i64 hi] w fun e w' => e = .returned (.bool (decide (lo ≤ x) && decide (x ≤ hi))) ∧ w' = w := by
  by_cases h1 : lo ≤ x
  · by_cases h2 : x ≤ hi
    · rw [decide_eq_true h1, decide_eq_true h2]
      go_enter Try.func46, Try.ntmps46
      go_wp2
      go_ret
      exact ⟨rfl, rfl⟩
    · have h2' : decide (x ≤ hi) = false := decide_eq_false h2
      rw [decide_eq_true h1, h2']
      go_enter Try.func46, Try.ntmps46
      go_wp2
      go_ret
      exact ⟨rfl, rfl⟩
  · have h1' : decide (lo ≤ x) = false := decide_eq_false h1
    rw [h1']
    go_enter Try.func46, Try.ntmps46
    go_wp2
    go_ret
    exact ⟨rfl, rfl⟩
theorem itime_any (x : Int) (w : World) : Calls Try.prog 45 #[.int .i64 x] w fun e w' => e = .returned (.bool (timeB x)) ∧ w' = w := by
  go_enter Try.func45, Try.ntmps45
  go_wp2_with (first | (go_at_call 46; refine (iwithin_any _ _ _ _).mono ?_; rintro e w2 ⟨rfl, rfl⟩))
  go_ret
  exact ⟨rfl, rfl⟩
end Go.Proofs.Ytmophpbfaonfmae
