/- Lemmas on the way, of several texts: Cur, Draw, New, Smp, Pairs, ToSmp, Cells, OwnV, Ints, Kept, IntOwn, MarkSmp, Wok, ImplIn, OwnW. -/
import Derived.Test.YtibfclfidaofkasRows
import Derived.Test.YtibfclfidaofkasGrpB
import Derived.Deep.QuietTactic
import Derived.BigQuiet
import Derived.Outline
import Derived.LoopN
import Derived.Handy
import Derived.WalkSmall
import Derived.Test.YtibfclfidaofkasGrpA
import Derived.OwnWalk
import Derived.LoopTactic
import Derived.Laws.OwnMore
import Derived.Laws.AppendOwn
namespace Go.Proofs.Ytibfclfidaofkas
open Go.ChangeShapes Go.WideShapes Go.ChangeAt Go.RowKit
set_option maxRecDepth 100000
set_option linter.unusedVariables false

/-- Of all old blocks at most block b has turned. -/
structure Only (b : Nat) (w w' : World) : Prop where
  os : w'.os = w.os
  tape : w'.tape = w.tape
  output : w'.output = w.output
  size : w.heap.size ≤ w'.heap.size
  block : ∀ k, k < w.heap.size → k ≠ b → w'.heap[k]? = w.heap[k]?

theorem Only.refl (b : Nat) (w : World) : Only b w w := ⟨rfl, rfl, rfl, Nat.le_refl _, fun _ _ _ => rfl⟩
theorem Only.trans {b : Nat} {u v w : World} (h : Only b u v) (k : Only b v w) : Only b u w :=
  ⟨k.os.trans h.os, k.tape.trans h.tape, k.output.trans h.output, Nat.le_trans h.size k.size, fun i hi hb => (k.block i (Nat.lt_of_lt_of_le hi h.size) hb).trans (h.block i hi hb)⟩
theorem Only.of_below {b : Nat} {w w' : World} (h : Below w.heap.size w w') : Only b w w' := ⟨h.os, h.tape, h.output, h.size, fun k hk _ => h.block k hk⟩
theorem Only.below {b B : Nat} {w w' : World} (h : Only b w w') (hb : B ≤ b) (hB : B ≤ w.heap.size) : Below B w w' :=
  ⟨h.os, h.tape, h.output, h.size, fun k hk => h.block k (by omega) (by omega)⟩
theorem Only.drewN {b : Nat} {w w' : World} (h : Only b w w') (n : Nat) : Only b w (w'.drewN n) := ⟨h.os, h.tape, h.output, h.size, h.block⟩
theorem Only.setCell {b : Nat} {w w' : World} (h : Only b w w') {p : Addr} (hp : p.block = b) (u : Value) : Only b w (w'.setCell p u) := by
  have hs : w'.heap.size = (w'.setCell p u).heap.size := by simp
  have k := (Below.refl b w').setCell (p := p) (by omega) u
  refine ⟨k.os.trans h.os, k.tape.trans h.tape, k.output.trans h.output, by rw [← hs]; exact h.size, fun i hi hb => ?_⟩
  rw [Below.heap_setCell _ _ _ _ (by omega)]; exact h.block i hi hb
theorem Only.cell {b : Nat} {w w' : World} (h : Only b w w') {p : Addr} (hp : p.block < w.heap.size) (hb : p.block ≠ b) : w'.cell? p = w.cell? p := World.cell?_of_block (w := w) (h.block p.block hp hb)
theorem Only.frozen {b : Nat} {w w' : World} (h : Only b w w') {p : Addr} (hp : p.block < w.heap.size) (hb : p.block ≠ b) : w'.frozen? p = w.frozen? p := World.frozen?_of_block (w := w) (h.block p.block hp hb)

/-- Block b holds a cursor over the row of len bytes at a0, which lies below block B. -/
structure Cur (B : Nat) (a0 : Option Addr) (len cap b : Nat) (w : World) : Prop where
  small : len ≤ 4096
  lo : B ≤ b
  hi : b < w.heap.size
  val : ∃ i : Nat, ∃ h : Int, w.cell? ⟨b, 0, none⟩ = some (.slice a0 len cap) ∧ w.cell? ⟨b, 1, none⟩ = some (.int .i64 i) ∧ w.cell? ⟨b, 2, none⟩ = some (.int .i64 h) ∧ i ≤ len
  fr : ∀ j, w.frozen? ⟨b, j, none⟩ = false
  row : ∀ i : Nat, i < len → ∃ (xb xo : Nat) (z : Int), a0 = some ⟨xb, xo, none⟩ ∧ xb < B ∧ w.cell? ⟨xb, xo + i, none⟩ = some (.int .u8 z) ∧ 0 ≤ z ∧ z ≤ 255

theorem Cur.mono {B : Nat} {a0 : Option Addr} {len cap b : Nat} {w w' : World} (c : Cur B a0 len cap b w) (h : Below w.heap.size w w') : Cur B a0 len cap b w' where
  small := c.small
  lo := c.lo
  hi := Nat.lt_of_lt_of_le c.hi h.size
  val := by
    obtain ⟨i, v, h0, h1, h2, h3⟩ := c.val
    have hb := c.hi
    exact ⟨i, v, (h.cell (by exact hb)).trans h0, (h.cell (by exact hb)).trans h1, (h.cell (by exact hb)).trans h2, h3⟩
  fr := fun j => (h.frozen (by exact c.hi)).trans (c.fr j)
  row := fun i hi => by
    obtain ⟨xb, xo, z, e, hx, hc, hz⟩ := c.row i hi
    have h1 := c.lo; have h2 := c.hi
    exact ⟨xb, xo, z, e, hx, (h.cell (by show xb < _; omega)).trans hc, hz⟩

theorem Cur.turn {B : Nat} {a0 : Option Addr} {len cap b : Nat} {w w' : World} (c : Cur B a0 len cap b w) (o : Only b w w') (i : Nat) (h : Int) (h0 : w'.cell? ⟨b, 0, none⟩ = some (.slice a0 len cap))
    (h1 : w'.cell? ⟨b, 1, none⟩ = some (.int .i64 i)) (h2 : w'.cell? ⟨b, 2, none⟩ = some (.int .i64 h)) (hi : i ≤ len) (fr : ∀ j, w'.frozen? ⟨b, j, none⟩ = false) : Cur B a0 len cap b w' where
  small := c.small
  lo := c.lo
  hi := Nat.lt_of_lt_of_le c.hi o.size
  val := ⟨i, h, h0, h1, h2, hi⟩
  fr := fr
  row := fun i hi => by
    obtain ⟨xb, xo, z, e, hx, hc, hz⟩ := c.row i hi
    have h1 := c.lo; have h2 := c.hi
    exact ⟨xb, xo, z, e, hx, (o.cell (by show xb < _; omega) (by show xb ≠ _; omega)).trans hc, hz⟩

theorem Cur.fin {B : Nat} {a0 : Option Addr} {len cap b : Nat} {w w' : World} (c : Cur B a0 len cap b w) (i : Nat) (h : Int) (o : Only b w w') (h0 : w'.cell? ⟨b, 0, none⟩ = some (.slice a0 len cap))
    (h1 : w'.cell? ⟨b, 1, none⟩ = some (.int .i64 i)) (h2 : w'.cell? ⟨b, 2, none⟩ = some (.int .i64 h)) (hi : i ≤ len) (fr : ∀ j, w'.frozen? ⟨b, j, none⟩ = false) : Cur B a0 len cap b w' ∧ Only b w w' :=
  ⟨c.turn o i h h0 h1 h2 hi fr, o⟩

theorem and255_i64 (n : Int) : bits .and .i64 n 255 = n % 256 := by
  have h255 : (BitVec.ofInt 64 255).toNat = 2 ^ 8 - 1 := by decide
  have key : (BitVec.ofInt 64 n &&& BitVec.ofInt 64 255).toNat = (n % ((2 ^ 64 : Nat) : Int)).toNat % 2 ^ 8 := by
    rw [BitVec.toNat_and, BitVec.toNat_ofInt, h255, Nat.and_two_pow_sub_one_eq_mod]
  show IntKind.i64.wrap ((BitVec.ofInt 64 n &&& BitVec.ofInt 64 255).toNat : Nat) = n % 256
  rw [key, IntKind.wrap_i64]
  omega

end Go.Proofs.Ytibfclfidaofkas
namespace Go.Proofs.Ytibfclfidaofkas
open Go.ChangeShapes Go.WideShapes Go.ChangeAt Go.RowKit
set_option maxRecDepth 100000
set_option linter.unusedVariables false

theorem new_below (w : World) (o : Obj) : Below w.heap.size w (w.alloc o) := (Below.refl _ _).alloc (Nat.le_refl _) _
theorem Cur.alloc {B : Nat} {a0 : Option Addr} {len cap b : Nat} {w : World} (c : Cur B a0 len cap b w) (o : Obj) : Cur B a0 len cap b (w.alloc o) := c.mono (new_below w o)
theorem Only.alloc {b : Nat} {w0 w : World} (h : Only b w0 w) (o : Obj) : Only b w0 (w.alloc o) := h.trans (Only.of_below (new_below w o))

/-- A cell of a table that was laid ahead of a draw. -/
theorem table_cell {b : Nat} {w w1 : World} {arr : Array Value} {t : TypeId} (hb : b < w.heap.size) (o : Only b (w.alloc (.cells arr t)) w1) (k : Nat) : w1.cell? ⟨w.heap.size, k, none⟩ = arr[k]? := by
  rw [o.cell (by show w.heap.size < _; simp) (by show w.heap.size ≠ b; omega)]
  exact World.cell?_alloc_at _ _ _ _ rfl

theorem odd_in (X : Nat) (h : X < 10) : ∃ y : Int, (#[Value.int IntKind.i64 (-1), Value.int IntKind.i64 0, Value.int IntKind.i64 1,
          Value.int IntKind.i64 2147483648, Value.int IntKind.i64 (-2147483648), Value.int IntKind.i64 1099511627776,
          Value.int IntKind.i64 4611686018427387904, Value.int IntKind.i64 (-4611686018427387904),
          Value.int IntKind.i64 9223372036854775807, Value.int IntKind.i64 (-9223372036854775808)] : Array Value)[X]? = some (.int .i64 y) ∧ (-9223372036854775808 ≤ y ∧ y ≤ 9223372036854775807) := by
  match X, h with
  | 0, _ => exact ⟨_, rfl, by decide⟩
  | 1, _ => exact ⟨_, rfl, by decide⟩
  | 2, _ => exact ⟨_, rfl, by decide⟩
  | 3, _ => exact ⟨_, rfl, by decide⟩
  | 4, _ => exact ⟨_, rfl, by decide⟩
  | 5, _ => exact ⟨_, rfl, by decide⟩
  | 6, _ => exact ⟨_, rfl, by decide⟩
  | 7, _ => exact ⟨_, rfl, by decide⟩
  | 8, _ => exact ⟨_, rfl, by decide⟩
  | 9, _ => exact ⟨_, rfl, by decide⟩

end Go.Proofs.Ytibfclfidaofkas
namespace Go.Proofs.Ytibfclfidaofkas
open Go.ChangeShapes Go.WideShapes Go.ChangeAt Go.RowKit
set_option maxRecDepth 100000
set_option linter.unusedVariables false

/-- The row of len bytes at a0 lies below block B. -/
def Row (B : Nat) (a0 : Option Addr) (len : Nat) (w : World) : Prop :=
  ∀ i : Nat, i < len → ∃ (xb xo : Nat) (z : Int), a0 = some ⟨xb, xo, none⟩ ∧ xb < B ∧ w.cell? ⟨xb, xo + i, none⟩ = some (.int .u8 z) ∧ 0 ≤ z ∧ z ≤ 255
theorem Row.mono {B : Nat} {a0 : Option Addr} {len : Nat} {w w' : World} (r : Row B a0 len w) (h : Below B w w') : Row B a0 len w' := fun i hi => by
  obtain ⟨xb, xo, z, e, hx, hc, hz⟩ := r i hi
  exact ⟨xb, xo, z, e, hx, (h.cell (by exact hx)).trans hc, hz⟩
/-- A number of 64 bits. -/
def I64 (x : Int) : Prop := -9223372036854775808 ≤ x ∧ x ≤ 9223372036854775807
theorem I64_wrap (x : Int) : I64 (wrap64 x) := by unfold I64 wrap64; omega

end Go.Proofs.Ytibfclfidaofkas
namespace Go.Proofs.Ytibfclfidaofkas
open Go.ChangeShapes Go.WideShapes Go.ChangeAt Go.RowKit
set_option maxRecDepth 100000
set_option linter.unusedVariables false

/-- The pairs xs lie at a, below block B. -/
def Smp (B : Nat) (w : World) (a : Option Addr) (xs : List (Int × Int)) : Prop :=
  ∀ i (h : i < xs.length), ∃ b off, a = some ⟨b, off, none⟩ ∧ b < B ∧ w.cell? ⟨b, off + i * 2, none⟩ = some (.int .i64 xs[i].1) ∧ w.cell? ⟨b, off + i * 2 + 1, none⟩ = some (.int .i64 xs[i].2)
theorem Smp.first {B : Nat} {w : World} {a : Option Addr} {x : Int × Int} {xs : List (Int × Int)} (h : Smp B w a (x :: xs)) (hB : B ≤ w.heap.size) :
    ∃ b off, a = some ⟨b, off, none⟩ ∧ b < w.heap.size ∧ w.cell? ⟨b, off, none⟩ = some (.int .i64 x.1) ∧ w.cell? ⟨b, off + 1, none⟩ = some (.int .i64 x.2) := by
  obtain ⟨b, off, rfl, hb, c0, c1⟩ := h 0 (by simp)
  exact ⟨b, off, rfl, by omega, by simpa using c0, by simpa using c1⟩
def bestOf (xs : List (Int × Int)) : Int := match xs with | [] => 0 | x :: _ => x.2
/-- How long ago the first one was. -/
def timeB (x : Int) : Bool := decide (0 ≤ x) && decide (x ≤ 1000000000000000)
def rateB (x : Int) : Bool := decide (0 ≤ x) && decide (x ≤ 1000000000000)
def sinceOf (xs : List (Int × Int)) (at' : Int) : Int := match xs with | [] => -1 | x :: _ => if timeB x.1 = true ∧ timeB at' = true ∧ x.1 ≤ at' then at' - x.1 else -1
theorem in_any (lo x hi : Int) (w : World) : Calls Try.prog 23 #[.int .i64 x, .int .i64 lo, .int .i64 hi] w fun e w' => e = .returned (.bool (decide (lo ≤ x) && decide (x ≤ hi))) ∧ w' = w := by
  by_cases h1 : lo ≤ x
  · by_cases h2 : x ≤ hi
    · rw [decide_eq_true h1, decide_eq_true h2]
      go_enter Try.func23, Try.ntmps23
      go_wp2
      go_ret
      exact ⟨rfl, rfl⟩
    · have h2' : decide (x ≤ hi) = false := decide_eq_false h2
      rw [decide_eq_true h1, h2']
      go_enter Try.func23, Try.ntmps23
      go_wp2
      go_ret
      exact ⟨rfl, rfl⟩
  · have h1' : decide (lo ≤ x) = false := decide_eq_false h1
    rw [h1']
    go_enter Try.func23, Try.ntmps23
    go_wp2
    go_ret
    exact ⟨rfl, rfl⟩
theorem time_any (x : Int) (w : World) : Calls Try.prog 21 #[.int .i64 x] w fun e w' => e = .returned (.bool (timeB x)) ∧ w' = w := by
  go_enter Try.func21, Try.ntmps21
  go_wp2_with (first | (go_at_call 23; refine (in_any _ _ _ _).mono ?_; rintro e w2 ⟨rfl, rfl⟩))
  go_ret
  exact ⟨rfl, rfl⟩
theorem rate_any (x : Int) (w : World) : Calls Try.prog 91 #[.int .i64 x] w fun e w' => e = .returned (.bool (rateB x)) ∧ w' = w := by
  go_enter Try.func91, Try.ntmps91
  go_wp2_with (first | (go_at_call 23; refine (in_any _ _ _ _).mono ?_; rintro e w2 ⟨rfl, rfl⟩))
  go_ret
  exact ⟨rfl, rfl⟩
end Go.Proofs.Ytibfclfidaofkas
namespace Go.Proofs.Ytibfclfidaofkas
open Go.ChangeShapes Go.WideShapes Go.ChangeAt Go.RowKit
set_option maxRecDepth 100000
set_option linter.unusedVariables false

section
variable {H : Type} {enc : TypeId × Value → H} {P : Program} {w : World} {sp : Nat → Bool} {held : Bool}

/-- Two numbers. -/
theorem open_pair2 {e : TypeId} {f0 f1 : Field} (he : P.underlying e = some (.struct #[f0, f1])) (h0 : P.underlying f0.type = some (.int .i64)) (h1 : P.underlying f1.type = some (.int .i64))
    (o0 : f0.offset = 0) (o1 : f1.offset = 1) (c0 : P.cellsOf f0.type = 1) (c1 : P.cellsOf f1.type = 1) (ce : P.cellsOf e = 2) {fuel : Nat} {cs : List Value} {x : DataW H × List MemPlace}
    (h : DataW.trod enc P w 0 sp held fuel e cs = some x) : ∃ p q : Int, cs = [.int .i64 p, .int .i64 q] ∧ I64 p ∧ I64 q := by
  obtain ⟨y0, y1, n, _, hl, t0, t1⟩ := trod_struct2 he h
  rw [ce] at hl
  match cs, hl with
  | [u, v], _ =>
    rw [o0, c0] at t0
    rw [o1, c1] at t1
    obtain ⟨p, e0, _, w0⟩ := DataW.trod_int h0 t0
    obtain ⟨q, e1, _, w1⟩ := DataW.trod_int h1 t1
    simp only [List.drop_zero, List.take_succ_cons, List.take_zero, List.drop_succ_cons, List.cons.injEq, and_true] at e0 e1
    exact ⟨p, q, by rw [e0, e1], bounds_i64 w0, bounds_i64 w1⟩
def intVal (v : Option Value) : Int := match v with | some (.int _ n) => n | _ => 0
theorem open_pairs {t e : TypeId} {f0 f1 : Field} (ht : P.underlying t = some (.slice e)) (he : P.underlying e = some (.struct #[f0, f1])) (h0 : P.underlying f0.type = some (.int .i64)) (h1 : P.underlying f1.type = some (.int .i64))
    (o0 : f0.offset = 0) (o1 : f1.offset = 1) (c0 : P.cellsOf f0.type = 1) (c1 : P.cellsOf f1.type = 1) (ce : P.cellsOf e = 2) {fuel : Nat} {v : Value} {x : DataW H × List MemPlace}
    (h : DataW.trod enc P w 0 sp held fuel t [v] = some x) :
    ∃ (a : Option Addr) (cap : Nat) (xs : List (Int × Int)), v = .slice a xs.length cap ∧ Smp w.heap.size w a xs ∧ (∀ x ∈ xs, I64 x.1 ∧ I64 x.2) ∧ (a = none → xs = [] ∧ cap = 0) ∧ xs.length ≤ cap ∧ cap ≤ maxLen := by
  rcases DataW.trod_slice ht h with ⟨e1, _⟩ | ⟨a, len, cap, elems, rest, n, _, e1, _, _, hl, hm, hlen, hel, _, _⟩
  · obtain rfl : v = .slice none 0 0 := by simpa using e1
    exact ⟨none, 0, [], rfl, (fun i h => by cases h), (fun x h => by cases h), (fun _ => ⟨rfl, rfl⟩), Nat.le_refl _, (by unfold maxLen; omega)⟩
  · obtain rfl : v = .slice (some a) len cap := by simpa using e1
    have one : ∀ i, i < len → ∃ p q, w.cell? (a.add (i * 2)) = some (.int .i64 p) ∧ w.cell? ((a.add (i * 2)).add 1) = some (.int .i64 q) ∧ I64 p ∧ I64 q := by
      intro i hi
      obtain ⟨y, hy⟩ : ∃ y, elems[i]? = some y := ⟨_, List.getElem?_eq_getElem (by omega)⟩
      have hb := hel i hi
      rw [hy, ce, Option.bind_eq_some_iff] at hb
      obtain ⟨cs, hc, htr⟩ := hb
      obtain ⟨p, q, rfl, ip, iq⟩ := open_pair2 he h0 h1 o0 o1 c0 c1 ce htr
      obtain ⟨_, _, hcell⟩ := World.cells?_some hc
      exact ⟨p, q, by simpa [Addr.add] using hcell 0 (by omega), by simpa using hcell 1 (by omega), ip, iq⟩
    refine ⟨some a, cap, (List.range len).map fun i => (intVal (w.cell? (a.add (i * 2))), intVal (w.cell? ((a.add (i * 2)).add 1))), by simp, ?_, ?_, (fun h => by cases h), (by simpa using hl), hm⟩
    · intro i hi
      have hi' : i < len := by simpa using hi
      obtain ⟨p, q, cp, cq, _, _⟩ := one i hi'
      have hspot : a.spot = none := by
        obtain ⟨_, _, c0', _⟩ := one 0 (by omega)
        simpa [Addr.add] using World.cell?_spot c0'
      obtain ⟨b, off, spot⟩ := a
      simp only at hspot
      subst hspot
      have e2 : ((⟨b, off, none⟩ : Addr).add (i * 2)) = ⟨b, off + i * 2, none⟩ := by unfold Addr.add; split <;> simp_all
      have e3 : ((⟨b, off + i * 2, none⟩ : Addr).add 1) = ⟨b, off + i * 2 + 1, none⟩ := by simp [Addr.add]
      rw [e2] at cp cq
      rw [e3] at cq
      refine ⟨b, off, rfl, World.block_lt_of_cell? w _ cp, ?_, ?_⟩
      · simp only [List.getElem_map, List.getElem_range, e2, cp, intVal]
      · simp only [List.getElem_map, List.getElem_range, e2, e3, cq, intVal]
    · intro x hx
      obtain ⟨i, hi, rfl⟩ := List.mem_map.1 hx
      obtain ⟨p, q, cp, cq, ip, iq⟩ := one i (List.mem_range.1 hi)
      simp only [cp, cq, intVal]
      exact ⟨ip, iq⟩
end

theorem cells_i64 : Try.prog.cellsOf 2 = 1 := by kernel_rfl
end Go.Proofs.Ytibfclfidaofkas
namespace Go.Proofs.Ytibfclfidaofkas
open Go.ChangeShapes Go.WideShapes Go.ChangeAt Go.RowKit
set_option maxRecDepth 100000
set_option linter.unusedVariables false

/-- Block g has room for n pairs; the first k are those of xs. -/
structure Fill (w : World) (g n : Nat) (xs : List (Int × Int)) (k : Nat) : Prop where
  any : ∀ j, j < n * 2 → (∃ z : Int, w.cell? ⟨g, j, none⟩ = some (.int .i64 z)) ∧ w.frozen? ⟨g, j, none⟩ = false
  got : ∀ i (h : i < xs.length), i < k → w.cell? ⟨g, i * 2, none⟩ = some (.int .i64 xs[i].1) ∧ w.cell? ⟨g, i * 2 + 1, none⟩ = some (.int .i64 xs[i].2)
theorem Fill.mono {w w' : World} {g n k : Nat} {xs : List (Int × Int)} (f : Fill w g n xs k) (h : Below w.heap.size w w') (hg : g < w.heap.size) : Fill w' g n xs k where
  any := fun j hj => by
    obtain ⟨⟨z, hz⟩, hf⟩ := f.any j hj
    exact ⟨⟨z, (h.cell (by exact hg)).trans hz⟩, (h.frozen (by exact hg)).trans hf⟩
  got := fun i hi hk => ⟨(h.cell (by exact hg)).trans (f.got i hi hk).1, (h.cell (by exact hg)).trans (f.got i hi hk).2⟩
theorem set_same {w : World} {a : Addr} {u : Value} (v : Value) (h : w.cell? a = some u) : (w.setCell a v).cell? a = some v := World.cell?_setCell_same' w a v (by rw [h]; rfl)
theorem set_other {w : World} {b i j : Nat} {v : Value} (h : i ≠ j) : (w.setCell ⟨b, i, none⟩ v).cell? ⟨b, j, none⟩ = w.cell? ⟨b, j, none⟩ := by
  apply World.cell?_setCell_other
  intro e
  injection e with _ e _
  exact h e
theorem Fill.put {w : World} {g n k : Nat} {xs : List (Int × Int)} (f : Fill w g n xs k) (hk : k < xs.length) (hn : xs.length ≤ n) :
    Fill ((w.setCell ⟨g, k * 2, none⟩ (.int .i64 xs[k].1)).setCell ⟨g, k * 2 + 1, none⟩ (.int .i64 xs[k].2)) g n xs (k + 1) where
  any := fun j hj => by
    obtain ⟨⟨z, hz⟩, hf⟩ := f.any j hj
    refine ⟨?_, by simpa using hf⟩
    by_cases h1 : j = k * 2 + 1
    · subst h1
      exact ⟨_, set_same _ ((set_other (by omega)).trans hz)⟩
    · by_cases h0 : j = k * 2
      · subst h0
        exact ⟨_, (set_other (by omega)).trans (set_same _ hz)⟩
      · exact ⟨z, (set_other (by omega)).trans ((set_other (by omega)).trans hz)⟩
  got := fun i hi hik => by
    obtain ⟨⟨z0, hz0⟩, _⟩ := f.any (k * 2) (by omega)
    obtain ⟨⟨z1, hz1⟩, _⟩ := f.any (k * 2 + 1) (by omega)
    by_cases h : i = k
    · subst h
      exact ⟨(set_other (by omega)).trans (set_same _ hz0), set_same _ ((set_other (by omega)).trans hz1)⟩
    · obtain ⟨c0, c1⟩ := f.got i hi (by omega)
      exact ⟨(set_other (by omega)).trans ((set_other (by omega)).trans c0), (set_other (by omega)).trans ((set_other (by omega)).trans c1)⟩
theorem Smp.at {B : Nat} {w : World} {a : Option Addr} {xs : List (Int × Int)} (h : Smp B w a xs) {w' : World} (hb : Below B w w') (k : Nat) (hk : k < xs.length) :
    ∃ b off, a = some ⟨b, off, none⟩ ∧ b < B ∧ w'.cell? ⟨b, off + k * 2, none⟩ = some (.int .i64 xs[k].1) ∧ w'.cell? ⟨b, off + k * 2 + 1, none⟩ = some (.int .i64 xs[k].2) := by
  obtain ⟨b, off, e, hlt, c0, c1⟩ := h k hk
  exact ⟨b, off, e, hlt, (hb.cell (by exact hlt)).trans c0, (hb.cell (by exact hlt)).trans c1⟩
theorem made_pair (n j : Nat) (h : j < n * 2) : (madeCells (Value.agg #[.int .i64 0, .int .i64 0]).cells (n * 2)).toList[j]? = some (.int .i64 0) := by
  have hz : ∀ i : Nat, (#[Value.int .i64 0, Value.int .i64 0] : Array Value)[i % 2]! = .int .i64 0 := by
    intro i
    have : i % 2 = 0 ∨ i % 2 = 1 := by omega
    rcases this with e | e <;> rw [e] <;> rfl
  rw [Array.getElem?_toList]
  unfold madeCells
  rw [Array.getElem?_map, Array.getElem?_eq_getElem (by simpa using h)]
  show some _ = _
  rw [show ((Array.range (n * 2))[j]'(by simpa using h)) = j by simp]
  exact congrArg some (hz j)
theorem Smp.cells {B b off : Nat} {w : World} {xs : List (Int × Int)} (h : Smp B w (some ⟨b, off, none⟩) xs) {w' : World} (hb : Below B w w') (k : Nat) (hk : k < xs.length) :
    w'.cell? ⟨b, off + k * 2, none⟩ = some (.int .i64 xs[k].1) ∧ w'.cell? ⟨b, off + k * 2 + 1, none⟩ = some (.int .i64 xs[k].2) := by
  obtain ⟨b', off', e, _, c⟩ := h.at hb k hk
  cases e
  exact c
theorem Fill.smp {w : World} {g n B : Nat} {xs : List (Int × Int)} (f : Fill w g n xs xs.length) (h : g < B) : Smp B w (some ⟨g, 0, none⟩) xs := fun i hi => by
  obtain ⟨c0, c1⟩ := f.got i hi hi
  exact ⟨g, 0, rfl, h, by rw [Nat.zero_add]; exact c0, by rw [Nat.zero_add]; exact c1⟩
theorem Smp.mono {B : Nat} {w w' : World} {a : Option Addr} {xs : List (Int × Int)} (h : Smp B w a xs) (hb : Below B w w') : Smp B w' a xs := fun i hi => h.at hb i hi
theorem Smp.up {B B' : Nat} {w : World} {a : Option Addr} {xs : List (Int × Int)} (h : Smp B w a xs) (hb : B ≤ B') : Smp B' w a xs := fun i hi => by
  obtain ⟨b, off, e, hl, c⟩ := h i hi
  exact ⟨b, off, e, Nat.lt_of_lt_of_le hl hb, c⟩
theorem below_cells {w w' : World} (h : Below w.heap.size w w') : ∀ b o : Nat, b < w.heap.size → w'.cell? ⟨b, o, none⟩ = w.cell? ⟨b, o, none⟩ := fun b o hb => h.cell (by exact hb)
theorem below_frozens {w w' : World} (h : Below w.heap.size w w') : ∀ b o : Nat, b < w.heap.size → w'.frozen? ⟨b, o, none⟩ = w.frozen? ⟨b, o, none⟩ := fun b o hb => h.frozen (by exact hb)
theorem set_far {w : World} {p q : Addr} {v : Value} (h : p.block ≠ q.block) : (w.setCell p v).cell? q = w.cell? q := World.cell?_setCell_other _ _ _ _ (fun e => h (by rw [e]))
theorem Fill.far {w : World} {g n k : Nat} {xs : List (Int × Int)} (f : Fill w g n xs k) {p : Addr} (v : Value) (h : p.block ≠ g) : Fill (w.setCell p v) g n xs k where
  any := fun j hj => ⟨by obtain ⟨z, hz⟩ := (f.any j hj).1; exact ⟨z, (set_far (by exact h)).trans hz⟩, by simpa using (f.any j hj).2⟩
  got := fun i hi hk => ⟨(set_far (by exact h)).trans (f.got i hi hk).1, (set_far (by exact h)).trans (f.got i hi hk).2⟩
theorem Smp.here {w x : World} {a : Option Addr} {xs : List (Int × Int)} (h : Smp w.heap.size w a xs) (hb : Below w.heap.size w x) : Smp x.heap.size x a xs := (h.mono hb).up hb.size
theorem below_step {w x y : World} (h : Below w.heap.size w x) (k : Below x.heap.size x y) : Below w.heap.size w y := h.trans (k.mono h.size)
theorem below_next {w x y z : World} (hx : Below w.heap.size w x) (h : Below x.heap.size x y) (k : Below y.heap.size y z) : Below w.heap.size w z := below_step (below_step hx h) k
end Go.Proofs.Ytibfclfidaofkas
namespace Go.Proofs.Ytibfclfidaofkas
open Go.ChangeShapes Go.WideShapes Go.ChangeAt Go.RowKit
set_option maxRecDepth 100000
set_option linter.unusedVariables false

def Cells (w : World) : List (Nat × Nat × Value) → Prop
  | [] => True
  | (b, o, v) :: r => (b < w.heap.size ∧ w.cell? ⟨b, o, none⟩ = some v) ∧ Cells w r
theorem Cells.next {w w' : World} (hb : Below w.heap.size w w') : ∀ {cs : List (Nat × Nat × Value)}, Cells w cs → Cells w' cs
  | [], _ => trivial
  | (b, o, v) :: r, ⟨⟨h1, h2⟩, h⟩ => ⟨⟨Nat.lt_of_lt_of_le h1 hb.size, (below_cells hb _ _ h1).trans h2⟩, Cells.next hb h⟩
theorem Cells.only {w w' : World} {g : Nat} (ho : Only g w w') : ∀ {cs : List (Nat × Nat × Value)}, (∀ c ∈ cs, c.1 ≠ g) → Cells w cs → Cells w' cs
  | [], _, _ => trivial
  | (b, o, v) :: r, hg, ⟨⟨h1, h2⟩, h⟩ => ⟨⟨Nat.lt_of_lt_of_le h1 ho.size, (ho.cell h1 (hg (b, o, v) (List.mem_cons_self ..))).trans h2⟩, Cells.only ho (fun c hc => hg c (List.mem_cons_of_mem _ hc)) h⟩
end Go.Proofs.Ytibfclfidaofkas
namespace Go.Proofs.Ytibfclfidaofkas
open Go.ChangeShapes Go.WideShapes Go.ChangeAt Go.RowKit
set_option maxRecDepth 100000
set_option linter.unusedVariables false

/-- Of all old blocks at most the one that is named has turned. -/
structure OnlyO (o : Option Nat) (w w' : World) : Prop where
  os : w'.os = w.os
  tape : w'.tape = w.tape
  output : w'.output = w.output
  size : w.heap.size ≤ w'.heap.size
  block : ∀ k, k < w.heap.size → o ≠ some k → w'.heap[k]? = w.heap[k]?
theorem OnlyO.of_below {o : Option Nat} {w w' : World} (h : Below w.heap.size w w') : OnlyO o w w' := ⟨h.os, h.tape, h.output, h.size, fun k hk _ => h.block k hk⟩
theorem OnlyO.of_only {g : Nat} {w w' : World} (h : Only g w w') : OnlyO (some g) w w' := ⟨h.os, h.tape, h.output, h.size, fun k hk hn => h.block k hk (fun e => hn (by rw [e]))⟩
theorem OnlyO.below {o : Option Nat} {B : Nat} {w w' : World} (h : OnlyO o w w') (hb : ∀ g, o = some g → B ≤ g) (hB : B ≤ w.heap.size) : Below B w w' :=
  ⟨h.os, h.tape, h.output, h.size, fun k hk => h.block k (by omega) (fun e => by have := hb k e; omega)⟩
theorem OnlyO.trans {o : Option Nat} {w x y : World} (h : OnlyO o w x) (k : OnlyO o x y) : OnlyO o w y := ⟨k.os.trans h.os, k.tape.trans h.tape, k.output.trans h.output, Nat.le_trans h.size k.size, fun i hi hn => (k.block i (Nat.lt_of_lt_of_le hi h.size) hn).trans (h.block i hi hn)⟩
theorem OnlyO.cell {o : Option Nat} {w w' : World} (h : OnlyO o w w') {p : Addr} (hp : p.block < w.heap.size) (hb : o ≠ some p.block) : w'.cell? p = w.cell? p := World.cell?_of_block (w := w) (h.block p.block hp hb)
theorem OnlyO.frozen {o : Option Nat} {w w' : World} (h : OnlyO o w w') {p : Addr} (hp : p.block < w.heap.size) (hb : o ≠ some p.block) : w'.frozen? p = w.frozen? p := World.frozen?_of_block (w := w) (h.block p.block hp hb)
theorem Cells.onlyO {w w' : World} {o : Option Nat} (ho : OnlyO o w w') : ∀ {cs : List (Nat × Nat × Value)}, (∀ c ∈ cs, o ≠ some c.1) → Cells w cs → Cells w' cs
  | [], _, _ => trivial
  | (b, o', v) :: r, hg, ⟨⟨h1, h2⟩, h⟩ => ⟨⟨Nat.lt_of_lt_of_le h1 ho.size, (ho.cell h1 (hg (b, o', v) (List.mem_cons_self ..))).trans h2⟩, Cells.onlyO ho (fun c hc => hg c (List.mem_cons_of_mem _ hc)) h⟩
/-- v is a filter's list: the items ys in a block of their own from lo on, or none. -/
def FV (w : World) (lo : Nat) (v : Value) (ys : List (Int × Int)) : Prop :=
  (∃ g cap, v = .slice (some ⟨g, 0, none⟩) ys.length cap ∧ lo ≤ g ∧ g < w.heap.size ∧ Fill w g ys.length ys ys.length ∧ ys.length ≤ cap) ∨ (v = .slice none 0 0 ∧ ys = [])
theorem FV.own {w : World} {lo : Nat} {v : Value} {ys : List (Int × Int)} (h : FV w lo v ys) {g : Nat} (hg : v.ownBlock = some g) : lo ≤ g ∧ g < w.heap.size := by
  rcases h with ⟨g', cap, rfl, h1, h2, _⟩ | ⟨rfl, _⟩
  · injection hg with hg
    have e : g' = g := hg
    subst e
    exact ⟨h1, h2⟩
  · cases hg
theorem FV.next {w w' : World} {lo : Nat} {v : Value} {ys : List (Int × Int)} (h : FV w lo v ys) (hb : Below w.heap.size w w') : FV w' lo v ys := by
  rcases h with ⟨g, cap, rfl, h1, h2, f, hc⟩ | h
  · exact .inl ⟨g, cap, rfl, h1, Nat.lt_of_lt_of_le h2 hb.size, f.mono hb h2, hc⟩
  · exact .inr h
theorem FV.onlyO {w w' : World} {lo : Nat} {o : Option Nat} {v : Value} {ys : List (Int × Int)} (h : FV w lo v ys) (hb : OnlyO o w w') (hv : ∀ g, v.ownBlock = some g → o ≠ some g) : FV w' lo v ys := by
  rcases h with ⟨g, cap, rfl, h1, h2, f, hc⟩ | h
  · have hn := hv g rfl
    refine .inl ⟨g, cap, rfl, h1, Nat.lt_of_lt_of_le h2 hb.size, ⟨fun j hj => ?_, fun i hi hk => ?_⟩, hc⟩
    · obtain ⟨⟨z, hz⟩, hf⟩ := f.any j hj
      exact ⟨⟨z, (hb.cell (by exact h2) (by exact hn)).trans hz⟩, (hb.frozen (by exact h2) (by exact hn)).trans hf⟩
    · exact ⟨(hb.cell (by exact h2) (by exact hn)).trans (f.got i hi hk).1, (hb.cell (by exact h2) (by exact hn)).trans (f.got i hi hk).2⟩
  · exact .inr h
theorem FV.lower {w : World} {lo lo' : Nat} {v : Value} {ys : List (Int × Int)} (h : FV w lo v ys) (hl : lo' ≤ lo) : FV w lo' v ys := by
  rcases h with ⟨g, cap, rfl, h1, h2, f, hc⟩ | h
  · exact .inl ⟨g, cap, rfl, Nat.le_trans hl h1, h2, f, hc⟩
  · exact .inr h
end Go.Proofs.Ytibfclfidaofkas
namespace Go.Proofs.Ytibfclfidaofkas
open Go.ChangeShapes Go.WideShapes Go.ChangeAt Go.RowKit
set_option maxRecDepth 100000
set_option linter.unusedVariables false

def flatI (xs : List Int) : List Value := xs.map fun x => .int .i64 x
theorem flatI_append (xs ys : List Int) : flatI (xs ++ ys) = flatI xs ++ flatI ys := List.map_append
theorem flatI_length (xs : List Int) : (flatI xs).length = xs.length := List.length_map ..
theorem flatI_one (xs : List Int) : ∀ u ∈ flatI xs, u.oneCell' = true := fun u hu => by
  obtain ⟨z, _, rfl⟩ := List.mem_map.1 hu
  rfl
/-- A block of n numbers, the first k of xs lie in it. -/
structure IFill (w : World) (g n : Nat) (xs : List Int) (k : Nat) : Prop where
  any : ∀ j, j < n → (∃ z : Int, w.cell? ⟨g, j, none⟩ = some (.int .i64 z)) ∧ w.frozen? ⟨g, j, none⟩ = false
  got : ∀ i (h : i < xs.length), i < k → w.cell? ⟨g, i, none⟩ = some (.int .i64 xs[i])
/-- v is a list of numbers: xs in a block of its own from lo on, or none. -/
def IV (w : World) (lo : Nat) (v : Value) (xs : List Int) : Prop :=
  (∃ g cap, v = .slice (some ⟨g, 0, none⟩) xs.length cap ∧ lo ≤ g ∧ g < w.heap.size ∧ IFill w g xs.length xs xs.length ∧ xs.length ≤ cap) ∨ (v = .slice none 0 0 ∧ xs = [])
theorem IV.own {w : World} {lo : Nat} {v : Value} {xs : List Int} (h : IV w lo v xs) {g : Nat} (hg : v.ownBlock = some g) : lo ≤ g ∧ g < w.heap.size := by
  rcases h with ⟨g', cap, rfl, h1, h2, _⟩ | ⟨rfl, _⟩
  · injection hg with hg
    have e : g' = g := hg
    subst e
    exact ⟨h1, h2⟩
  · cases hg
theorem IFill.mono {w w' : World} {g n k : Nat} {xs : List Int} (f : IFill w g n xs k) (hb : Below w.heap.size w w') (hg : g < w.heap.size) : IFill w' g n xs k where
  any := fun j hj => ⟨by obtain ⟨z, hz⟩ := (f.any j hj).1; exact ⟨z, (below_cells hb _ _ hg).trans hz⟩, (below_frozens hb _ _ hg).trans (f.any j hj).2⟩
  got := fun i hi hk => (below_cells hb _ _ hg).trans (f.got i hi hk)
theorem IV.next {w w' : World} {lo : Nat} {v : Value} {xs : List Int} (h : IV w lo v xs) (hb : Below w.heap.size w w') : IV w' lo v xs := by
  rcases h with ⟨g, cap, rfl, h1, h2, f, hc⟩ | h
  · exact .inl ⟨g, cap, rfl, h1, Nat.lt_of_lt_of_le h2 hb.size, f.mono hb h2, hc⟩
  · exact .inr h
theorem IV.onlyO {w w' : World} {lo : Nat} {o : Option Nat} {v : Value} {xs : List Int} (h : IV w lo v xs) (hb : OnlyO o w w') (hv : ∀ g, v.ownBlock = some g → o ≠ some g) : IV w' lo v xs := by
  rcases h with ⟨g, cap, rfl, h1, h2, f, hc⟩ | h
  · have hn := hv g rfl
    refine .inl ⟨g, cap, rfl, h1, Nat.lt_of_lt_of_le h2 hb.size, ⟨fun j hj => ?_, fun i hi hk => ?_⟩, hc⟩
    · obtain ⟨⟨z, hz⟩, hf⟩ := f.any j hj
      exact ⟨⟨z, (hb.cell (by exact h2) (by exact hn)).trans hz⟩, (hb.frozen (by exact h2) (by exact hn)).trans hf⟩
    · exact (hb.cell (by exact h2) (by exact hn)).trans (f.got i hi hk)
  · exact .inr h
theorem IV.lower {w : World} {lo lo' : Nat} {v : Value} {xs : List Int} (h : IV w lo v xs) (hl : lo' ≤ lo) : IV w lo' v xs := by
  rcases h with ⟨g, cap, rfl, h1, h2, f, hc⟩ | h
  · exact .inl ⟨g, cap, rfl, Nat.le_trans hl h1, h2, f, hc⟩
  · exact .inr h
theorem own_ints {w : World} {base : Nat} {v : Value} {xs : List Int} {t : TypeId} (h : w.ownsRow base t 1 v xs.length (flatI xs)) : IV w base v xs := by
  rcases h.2 with ⟨e, e2⟩ | ⟨g, cap, cur, rfl, hb, hg, hnc, _⟩
  · exact .inr ⟨e, List.eq_nil_of_length_eq_zero e2⟩
  · refine .inl ⟨g, cap, rfl, hb, (h.lt g rfl).2, ⟨fun j hj => ⟨?_, h.frozenAt j⟩, fun i hi _ => ?_⟩, hnc⟩
    · refine ⟨xs[j], (h.cellAt j (by omega)).trans ?_⟩
      unfold flatI
      rw [List.getElem?_map, List.getElem?_eq_getElem hj]
      rfl
    · refine (h.cellAt i (by omega)).trans ?_
      unfold flatI
      rw [List.getElem?_map, List.getElem?_eq_getElem hi]
      rfl
end Go.Proofs.Ytibfclfidaofkas
namespace Go.Proofs.Ytibfclfidaofkas
open Go.ChangeShapes Go.WideShapes Go.ChangeAt Go.RowKit
set_option maxRecDepth 100000
set_option linter.unusedVariables false

theorem OnlyO.of_grown {row : Option Nat} {w w' : World} (h : w.grownBy w' row) : OnlyO row w w' := ⟨h.os, h.tape, h.output, h.size, fun k hk hn => h.block k hk (fun e => hn e.symm)⟩
structure Kept (w : World) (cs : List (Nat × Nat × Value)) (bs : List Nat) (wr : World) : Prop where
  cells : Cells wr cs
  free : ∀ b ∈ bs, b < wr.heap.size ∧ ∀ o : Nat, wr.frozen? ⟨b, o, none⟩ = false
  hb : Below w.heap.size w wr
theorem Kept.onlyO {w : World} {cs : List (Nat × Nat × Value)} {bs : List Nat} {wr w' : World} {row : Option Nat} (h : Kept w cs bs wr) (hg : OnlyO row wr w') (hr : ∀ j, row = some j → w.heap.size ≤ j) (h1 : ∀ c ∈ cs, row ≠ some c.1) (h2 : ∀ b ∈ bs, row ≠ some b) : Kept w cs bs w' :=
  ⟨Cells.onlyO hg h1 h.cells, fun b hb => ⟨Nat.lt_of_lt_of_le (h.free b hb).1 hg.size, fun o => (hg.frozen (by exact (h.free b hb).1) (h2 b hb)).trans ((h.free b hb).2 o)⟩, h.hb.trans (hg.below hr h.hb.size)⟩
theorem Kept.next {w : World} {cs : List (Nat × Nat × Value)} {bs : List Nat} {wr w' : World} (h : Kept w cs bs wr) (hg : Below wr.heap.size wr w') : Kept w cs bs w' := h.onlyO (row := none) (OnlyO.of_below hg) (fun j e => by cases e) (fun c _ e => by cases e) (fun b _ e => by cases e)
theorem Kept.drew {w : World} {cs : List (Nat × Nat × Value)} {bs : List Nat} {wr : World} (h : Kept w cs bs wr) : Kept w cs bs wr.drew := h.next (Below.refl _ _).drew
/-- One place is stored over. -/
def putIn (b o : Nat) (v : Value) : List (Nat × Nat × Value) → List (Nat × Nat × Value)
  | [] => []
  | (b', o', u) :: r => (b', o', if b' = b ∧ o' = o then v else u) :: putIn b o v r
theorem Cells.put {wr : World} (b o : Nat) (v : Value) : ∀ {cs : List (Nat × Nat × Value)}, Cells wr cs → Cells (wr.setCell ⟨b, o, none⟩ v) (putIn b o v cs)
  | [], _ => trivial
  | (b', o', u) :: r, ⟨⟨h1, h2⟩, h⟩ => by
    refine ⟨⟨by simpa using h1, ?_⟩, Cells.put b o v h⟩
    by_cases e : b' = b ∧ o' = o
    · rw [if_pos e]
      obtain ⟨rfl, rfl⟩ := e
      exact set_same _ h2
    · rw [if_neg e]
      exact (World.cell?_setCell_other _ _ _ _ (fun k => e (by injection k with k1 k2 _; exact ⟨k1.symm, k2.symm⟩))).trans h2
theorem Kept.put {w : World} {cs : List (Nat × Nat × Value)} {bs : List Nat} {wr : World} (h : Kept w cs bs wr) (b o : Nat) (v : Value) (hb : w.heap.size ≤ b) : Kept w (putIn b o v cs) bs (wr.setCell ⟨b, o, none⟩ v) :=
  ⟨h.cells.put b o v, fun b' hb' => ⟨by simpa using (h.free b' hb').1, fun o' => by simpa using (h.free b' hb').2 o'⟩, h.hb.setCell (by exact hb) _⟩
theorem Kept.to {w : World} {cs cs' : List (Nat × Nat × Value)} {bs : List Nat} {wr : World} (h : Kept w cs bs wr) (e : cs = cs') : Kept w cs' bs wr := e ▸ h
theorem Fill.onlyO {w w' : World} {g n k : Nat} {xs : List (Int × Int)} {o : Option Nat} (f : Fill w g n xs k) (ho : OnlyO o w w') (hg : g < w.heap.size) (hn : o ≠ some g) : Fill w' g n xs k where
  any := fun j hj => ⟨by obtain ⟨z, hz⟩ := (f.any j hj).1; exact ⟨z, (ho.cell (by exact hg) (by exact hn)).trans hz⟩, (ho.frozen (by exact hg) (by exact hn)).trans (f.any j hj).2⟩
  got := fun i hi hk => ⟨(ho.cell (by exact hg) (by exact hn)).trans (f.got i hi hk).1, (ho.cell (by exact hg) (by exact hn)).trans (f.got i hi hk).2⟩
theorem row_set {w : World} {b i : Nat} {v u : Value} {base : Nat} {e : TypeId} {s n : Nat} {xs : List Value} (h : w.ownsRow base e s u n xs) (hb : b < base) : (w.setCell ⟨b, i, none⟩ v).ownsRow base e s u n xs :=
  h.kept (row := some b) ⟨rfl, rfl, rfl, by simp, fun k _ hk => Below.heap_setCell _ _ _ _ (fun e => hk (by simp [e]))⟩ (Or.inr (fun e => by have := (h.lt _ e).1; omega))
theorem own_slice {w : World} {b : Nat} {e : TypeId} {s n : Nat} {v : Value} {xs : List Value} (h : w.ownsRow b e s v n xs) : ∃ a c, v = .slice a n c := by
  rcases h.2 with ⟨rfl, e⟩ | ⟨g1, cap, cur, rfl, _⟩
  · exact ⟨none, 0, by rw [e]⟩
  · exact ⟨_, _, rfl⟩
theorem row_next {w w' : World} {base : Nat} {e : TypeId} {s n : Nat} {u : Value} {xs : List Value} (h : w.ownsRow base e s u n xs) (hb : Below w.heap.size w w') : w'.ownsRow base e s u n xs :=
  h.kept (row := none) ⟨hb.os, hb.tape, hb.output, hb.size, fun k hk _ => hb.block k hk⟩ (by cases u.ownBlock with | none => exact .inl rfl | some g => exact .inr (fun e => by cases e))
end Go.Proofs.Ytibfclfidaofkas
namespace Go.Proofs.Ytibfclfidaofkas
open Go.ChangeShapes Go.WideShapes Go.ChangeAt Go.RowKit
set_option maxRecDepth 100000
set_option linter.unusedVariables false

theorem info_i64 : (Try.prog.info? 2).map (fun i => (i.zero, i.size, i.bytes)) = some (some (.int .i64 0), 1, 8) := by kernel_rfl
theorem own_none1 (w : World) (b g : Nat) (hg : g = w.heap.size) (hb : b ≤ w.heap.size) (t : TypeId) : (w.alloc (.cells #[] t)).ownsRow b t 1 (.slice (some ⟨g, 0, none⟩) 0 0) 0 [] := by
  subst hg
  exact ⟨rfl, .inr ⟨w.heap.size, 0, #[], rfl, hb, heap_alloc_new _ _, Nat.le_refl _, by unfold maxLen; omega, rfl, rfl⟩⟩
theorem one_news {w : World} {g : Nat} {u : Value} (h : w.cell? ⟨g, 0, none⟩ = some u) : ∀ j v, [u][j]? = some v → w.cell? ((⟨g, 0, none⟩ : Addr).add j) = some v := by
  intro j v hv
  match j, hv with
  | 0, hv => obtain rfl : u = v := by simpa using hv
             exact h
theorem rows_apart {w : World} {b b' : Nat} {e e' : TypeId} {s s' n n' : Nat} {v v' : Value} {xs xs' : List Value} (h : w.ownsRow b e s v n xs) (h' : w.ownsRow b' e' s' v' n' xs') (he : e ≠ e') : ∀ g, v.ownBlock = some g → v'.ownBlock ≠ some g := by
  intro g hg hg'
  rcases h.2 with ⟨rfl, _⟩ | ⟨g1, cap, cur, rfl, _, hc, _⟩
  · cases hg
  · rcases h'.2 with ⟨rfl, _⟩ | ⟨g2, cap', cur', rfl, _, hc', _⟩
    · cases hg'
    · have e1 : g1 = g := Option.some.inj hg
      have e2 : g2 = g := Option.some.inj hg'
      subst e1
      subst e2
      rw [hc] at hc'
      injection hc' with hc'
      injection hc' with _ k _
      exact he k
theorem rows_keep {w : World} {b b' : Nat} {e e' : TypeId} {s s' n n' : Nat} {v v' : Value} {xs xs' : List Value} (h : w.ownsRow b e s v n xs) (h' : w.ownsRow b' e' s' v' n' xs') (he : e ≠ e') : v.ownBlock = none ∨ v.ownBlock ≠ v'.ownBlock := by
  cases ho : v.ownBlock with
  | none => exact .inl rfl
  | some g => exact .inr (fun k => rows_apart h h' he g ho k.symm)
theorem grown_set (w : World) (b i : Nat) (v : Value) : w.grownBy (w.setCell ⟨b, i, none⟩ v) (some b) :=
  ⟨rfl, rfl, rfl, by simp, fun k _ hk => Below.heap_setCell _ _ _ _ (fun e => hk (by simp [e]))⟩
end Go.Proofs.Ytibfclfidaofkas
namespace Go.Proofs.Ytibfclfidaofkas
open Go.ChangeShapes Go.WideShapes Go.ChangeAt Go.RowKit
set_option maxRecDepth 100000
set_option linter.unusedVariables false

def marks (k : Int) (n : Nat) : List (Int × Int) := (List.range n).map fun (i : Nat) => (k + 2 * (i : Int), k + 2 * (i : Int) + 1)
theorem marks_length (k : Int) (n : Nat) : (marks k n).length = n := by simp [marks]
theorem marks_get (k : Int) (n i : Nat) (h : i < (marks k n).length) : (marks k n)[i] = (k + 2 * (i : Int), k + 2 * (i : Int) + 1) := by simp [marks]
theorem Fill.again {w : World} {g n k : Nat} {xs : List (Int × Int)} (f : Fill w g n xs k) (ys : List (Int × Int)) : Fill w g n ys 0 := ⟨f.any, fun i hi hk => by omega⟩
theorem ret_v {f g : Int} (h : f = g) : Value.int .i64 f = .int .i64 g := by rw [h]
end Go.Proofs.Ytibfclfidaofkas
namespace Go.Proofs.Ytibfclfidaofkas
open Go.ChangeShapes Go.WideShapes Go.ChangeAt Go.RowKit
set_option maxRecDepth 100000
set_option linter.unusedVariables false

def idB (x : Int) : Bool := decide (0 ≤ x) && decide (x ≤ 1000000)
def befB (a b : Int × Int) : Bool := decide (a.2 < b.2) || (decide (a.2 = b.2) && decide (a.1 < b.1))
def timB (now : Int) (x : Int × Int) : Bool := (idB x.1 && timeB x.2) && decide (now < x.2)
/-- The first k timers are right. -/
def WTo (now : Int) (xs : List (Int × Int)) (k : Nat) : Prop := ∀ i (h : i < xs.length), i < k → timB now xs[i] = true ∧ (∀ j (hj : j < xs.length), j + 1 = i → befB xs[j] xs[i] = true) ∧ (∀ j (hj : j < xs.length), j < i → xs[j].1 ≠ xs[i].1)
def WOk (now : Int) (xs : List (Int × Int)) : Prop := timeB now = true ∧ xs.length ≤ 200 ∧ WTo now xs xs.length
theorem WTo.next {now : Int} {xs : List (Int × Int)} {k : Nat} (h : WTo now xs k) (hk : k < xs.length) (h1 : timB now xs[k] = true) (h2 : ∀ j (hj : j < xs.length), j + 1 = k → befB xs[j] xs[k] = true) (h3 : ∀ j (hj : j < xs.length), j < k → xs[j].1 ≠ xs[k].1) : WTo now xs (k + 1) := by
  intro i hi hik
  by_cases e : i = k
  · subst e; exact ⟨h1, h2, h3⟩
  · exact h i hi (by omega)
theorem bef_cases (p q r s : Int) : (q < s ∧ befB (p, q) (r, s) = true) ∨ (q = s ∧ befB (p, q) (r, s) = decide (p < r)) ∨ (s < q ∧ befB (p, q) (r, s) = false) := by
  unfold befB
  by_cases h : q < s
  · exact .inl ⟨h, by simp [h]⟩
  · by_cases h2 : q = s
    · exact .inr (.inl ⟨h2, by simp [h2]⟩)
    · exact .inr (.inr ⟨by omega, by simp [h, h2]⟩)
def WPost (now : Int) (xs : List (Int × Int)) (w : World) (e : Ending) (w' : World) : Prop := ∃ f : Bool, e = .returned (.bool f) ∧ (f = true ↔ WOk now xs) ∧ Below w.heap.size w w'
theorem WPost.no {now : Int} {xs : List (Int × Int)} {w w' : World} (h : ¬ WOk now xs) (hb : Below w.heap.size w w') : WPost now xs w (.returned (.bool false)) w' := ⟨false, rfl, ⟨fun h => (by cases h), fun k => absurd k h⟩, hb⟩
theorem WPost.yes {now : Int} {xs : List (Int × Int)} {w w' : World} (h : WOk now xs) (hb : Below w.heap.size w w') : WPost now xs w (.returned (.bool true)) w' := ⟨true, rfl, ⟨fun _ => h, fun _ => rfl⟩, hb⟩
theorem below_drews {B : Nat} {w w' : World} (h : Below B w w') (n : Nat) : Below B w (w'.drewN n) := ⟨h.os, h.tape, h.output, h.size, h.block⟩
end Go.Proofs.Ytibfclfidaofkas
namespace Go.Proofs.Ytibfclfidaofkas
open Go.ChangeShapes Go.WideShapes Go.ChangeAt Go.RowKit
set_option maxRecDepth 100000
set_option linter.unusedVariables false

theorem iwithin_any (lo x hi : Int) (w : World) : Calls Try.prog 30 #[.int .i64 x, .int .i64 lo, .int .i64 hi] w fun e w' => e = .returned (.bool (decide (lo ≤ x) && decide (x ≤ hi))) ∧ w' = w := by
  by_cases h1 : lo ≤ x
  · by_cases h2 : x ≤ hi
    · rw [decide_eq_true h1, decide_eq_true h2]
      go_enter Try.func30, Try.ntmps30
      go_wp2
      go_ret
      exact ⟨rfl, rfl⟩
    · have h2' : decide (x ≤ hi) = false := decide_eq_false h2
      rw [decide_eq_true h1, h2']
      go_enter Try.func30, Try.ntmps30
      go_wp2
      go_ret
      exact ⟨rfl, rfl⟩
  · have h1' : decide (lo ≤ x) = false := decide_eq_false h1
    rw [h1']
    go_enter Try.func30, Try.ntmps30
    go_wp2
    go_ret
    exact ⟨rfl, rfl⟩
theorem itime_any (x : Int) (w : World) : Calls Try.prog 102 #[.int .i64 x] w fun e w' => e = .returned (.bool (timeB x)) ∧ w' = w := by
  go_enter Try.func102, Try.ntmps102
  go_wp2_with (first | (go_at_call 30; refine (iwithin_any _ _ _ _).mono ?_; rintro e w2 ⟨rfl, rfl⟩))
  go_ret
  exact ⟨rfl, rfl⟩
theorem irate_any (x : Int) (w : World) : Calls Try.prog 126 #[.int .i64 x] w fun e w' => e = .returned (.bool (rateB x)) ∧ w' = w := by
  go_enter Try.func126, Try.ntmps126
  go_wp2_with (first | (go_at_call 30; refine (iwithin_any _ _ _ _).mono ?_; rintro e w2 ⟨rfl, rfl⟩))
  go_ret
  exact ⟨rfl, rfl⟩
end Go.Proofs.Ytibfclfidaofkas
namespace Go.Proofs.Ytibfclfidaofkas
open Go.ChangeShapes Go.WideShapes Go.ChangeAt Go.RowKit
set_option maxRecDepth 100000
set_option linter.unusedVariables false

/-- The block that a slice may write into: none where it has no room. -/
def roomB : Value → Option Nat
  | .slice (some p) _ (_ + 1) => some p.block
  | _ => none
theorem room_own {a : Option Addr} {n c g : Nat} (h : roomB (.slice a n c) = some g) : (Value.slice a n c).ownBlock = some g := by
  cases a with
  | none => cases h
  | some p => cases c with
    | zero => cases h
    | succ c => exact h
theorem room_zero (a : Option Addr) (n : Nat) : roomB (.slice a n 0) = none := by cases a <;> rfl
/-- v is a list: the items ys in a block of their own from lo on, or none and no room. -/
def FW (w : World) (lo : Nat) (v : Value) (ys : List (Int × Int)) : Prop :=
  (∃ g cap, v = .slice (some ⟨g, 0, none⟩) ys.length cap ∧ lo ≤ g ∧ g < w.heap.size ∧ Fill w g ys.length ys ys.length ∧ ys.length ≤ cap) ∨ ((∃ a, v = .slice a 0 0) ∧ ys = [])
theorem FW.zero (w : World) (lo : Nat) (a : Option Addr) : FW w lo (.slice a 0 0) [] := .inr ⟨⟨a, rfl⟩, rfl⟩
theorem FW.of {w : World} {lo : Nat} {v : Value} {ys : List (Int × Int)} (h : FV w lo v ys) : FW w lo v ys := by
  rcases h with h | ⟨h, k⟩
  · exact .inl h
  · exact .inr ⟨⟨_, h⟩, k⟩
/-- .. with room, or none. -/
theorem FW.room {w : World} {lo : Nat} {v : Value} {ys : List (Int × Int)} (h : FW w lo v ys) :
    (∃ g cap, v = .slice (some ⟨g, 0, none⟩) ys.length (cap + 1) ∧ lo ≤ g ∧ g < w.heap.size ∧ Fill w g ys.length ys ys.length ∧ ys.length ≤ cap + 1) ∨ ((∃ a, v = .slice a 0 0) ∧ ys = []) := by
  rcases h with ⟨g, cap, e, h1, h2, f, hc⟩ | h
  · cases cap with
    | zero =>
      have hy : ys = [] := List.eq_nil_of_length_eq_zero (by omega)
      subst hy
      exact .inr ⟨⟨_, e⟩, rfl⟩
    | succ cap => exact .inl ⟨g, cap, e, h1, h2, f, hc⟩
  · exact .inr h
theorem FW.own {w : World} {lo : Nat} {v : Value} {ys : List (Int × Int)} (h : FW w lo v ys) {g : Nat} (hg : roomB v = some g) : lo ≤ g ∧ g < w.heap.size := by
  rcases h.room with ⟨g', cap, rfl, h1, h2, _⟩ | ⟨⟨a, rfl⟩, _⟩
  · injection hg with hg
    have e : g' = g := hg
    subst e
    exact ⟨h1, h2⟩
  · rw [room_zero] at hg
    cases hg
theorem FW.next {w w' : World} {lo : Nat} {v : Value} {ys : List (Int × Int)} (h : FW w lo v ys) (hb : Below w.heap.size w w') : FW w' lo v ys := by
  rcases h with ⟨g, cap, rfl, h1, h2, f, hc⟩ | h
  · exact .inl ⟨g, cap, rfl, h1, Nat.lt_of_lt_of_le h2 hb.size, f.mono hb h2, hc⟩
  · exact .inr h
theorem FW.onlyO {w w' : World} {lo : Nat} {o : Option Nat} {v : Value} {ys : List (Int × Int)} (h : FW w lo v ys) (hb : OnlyO o w w') (hv : ∀ g, roomB v = some g → o ≠ some g) : FW w' lo v ys := by
  rcases h.room with ⟨g, cap, rfl, h1, h2, f, hc⟩ | h
  · have hn := hv g rfl
    refine .inl ⟨g, _, rfl, h1, Nat.lt_of_lt_of_le h2 hb.size, ⟨fun j hj => ?_, fun i hi hk => ?_⟩, hc⟩
    · obtain ⟨⟨z, hz⟩, hf⟩ := f.any j hj
      exact ⟨⟨z, (hb.cell (by exact h2) (by exact hn)).trans hz⟩, (hb.frozen (by exact h2) (by exact hn)).trans hf⟩
    · exact ⟨(hb.cell (by exact h2) (by exact hn)).trans (f.got i hi hk).1, (hb.cell (by exact h2) (by exact hn)).trans (f.got i hi hk).2⟩
  · exact .inr h
theorem FW.lower {w : World} {lo lo' : Nat} {v : Value} {ys : List (Int × Int)} (h : FW w lo v ys) (hl : lo' ≤ lo) : FW w lo' v ys := by
  rcases h with ⟨g, cap, rfl, h1, h2, f, hc⟩ | h
  · exact .inl ⟨g, cap, rfl, Nat.le_trans hl h1, h2, f, hc⟩
  · exact .inr h
end Go.Proofs.Ytibfclfidaofkas
