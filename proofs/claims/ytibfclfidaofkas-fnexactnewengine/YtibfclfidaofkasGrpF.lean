/- Lemmas on the way, of several texts: Buck, Quad, SpecBuck, SpecBuck2, OwnQ. -/
import Derived.Test.YtibfclfidaofkasGrpA
import Derived.Test.YtibfclfidaofkasGrpC
import Derived.Lib.SmallJoins
import Derived.Laws.AppendOwn
import Derived.Test.YtibfclfidaofkasGrpD
import Derived.Test.YtibfclfidaofkasAdd
namespace Go.Proofs.Ytibfclfidaofkas
open Go.ChangeShapes Go.WideShapes Go.ChangeAt Go.RowKit
set_option maxRecDepth 100000
set_option linter.unusedVariables false

section
variable {H : Type} {enc : TypeId × Value → H} {P : Program} {w : World} {sp : Nat → Bool} {held : Bool}
theorem open_ints4 {e i : TypeId} {f0 f1 f2 f3 : Field} (he : P.underlying e = some (.struct #[f0, f1, f2, f3])) (hi : P.underlying i = some (.int .i64)) (t0 : f0.type = i) (t1 : f1.type = i) (t2 : f2.type = i) (t3 : f3.type = i)
    (o0 : f0.offset = 0) (o1 : f1.offset = 1) (o2 : f2.offset = 2) (o3 : f3.offset = 3) (ci : P.cellsOf i = 1) (ce : P.cellsOf e = 4) {fuel : Nat} {cs : List Value} {x : DataW H × List MemPlace}
    (h : DataW.trod enc P w 0 sp held fuel e cs = some x) : ∃ p q r s : Int, cs = [.int .i64 p, .int .i64 q, .int .i64 r, .int .i64 s] ∧ I64 p ∧ I64 q ∧ I64 r ∧ I64 s := by
  obtain ⟨y0, y1, y2, y3, n, _, hl, h0, h1, h2, h3⟩ := Go.Joins.trod_struct4 he h
  rw [ce] at hl
  match cs, hl with
  | [a, b, c, d], _ =>
    rw [o0, t0, ci] at h0
    rw [o1, t1, ci] at h1
    rw [o2, t2, ci] at h2
    rw [o3, t3, ci] at h3
    obtain ⟨p, e0, _, w0⟩ := DataW.trod_int hi h0
    obtain ⟨q, e1, _, w1⟩ := DataW.trod_int hi h1
    obtain ⟨r, e2, _, w2⟩ := DataW.trod_int hi h2
    obtain ⟨s, e3, _, w3⟩ := DataW.trod_int hi h3
    simp only [List.drop_zero, List.take_succ_cons, List.take_zero, List.drop_succ_cons, List.cons.injEq, and_true] at e0 e1 e2 e3
    exact ⟨p, q, r, s, by rw [e0, e1, e2, e3], bounds_i64 w0, bounds_i64 w1, bounds_i64 w2, bounds_i64 w3⟩
end
theorem cells_bucket : Try.prog.cellsOf 121 = 4 := by kernel_rfl
theorem cells_int64 : Try.prog.cellsOf 2 = 1 := by kernel_rfl
theorem open_bucket {H : Type} {enc : TypeId × Value → H} {w : World} {sp : Nat → Bool} {held : Bool} {r : Reach} {b0 : Nat} {v : Value} {d : DataW H} {ps : List MemPlace}
    (hv : Value.okWide Try.prog w r b0 121 v) (h : DataW.Trod enc Try.prog w 0 sp held 121 v d ps) :
    ∃ x y z t : Int, v = .agg #[.int .i64 x, .int .i64 y, .int .i64 z, .int .i64 t] ∧ I64 x ∧ I64 y ∧ I64 z ∧ I64 t := by
  have hv' := hv
  unfold Value.okWide at hv'
  rw [Try.underlying121] at hv'
  obtain ⟨cs, rfl, hsz, _⟩ := hv'
  obtain ⟨n, hn⟩ := h
  have hn' : DataW.trod enc Try.prog w 0 sp held n 121 cs.toList = some (d, ps) := hn
  obtain ⟨x, y, z, t, e, i0, i1, i2, i3⟩ := open_ints4 Try.underlying121 Try.underlying2 rfl rfl rfl rfl rfl rfl rfl rfl cells_int64 cells_bucket hn'
  refine ⟨x, y, z, t, ?_, i0, i1, i2, i3⟩
  congr 1
  exact Array.ext' e
theorem cells_four {w : World} {g : Nat} {a b c d : Value} (h0 : w.cell? ⟨g, 0, none⟩ = some a) (h1 : w.cell? ⟨g, 1, none⟩ = some b) (h2 : w.cell? ⟨g, 2, none⟩ = some c) (h3 : w.cell? ⟨g, 3, none⟩ = some d) : ∀ j v, [a, b, c, d][j]? = some v → w.cell? ⟨g, j, none⟩ = some v := by
  intro j v hv
  match j, hv with
  | 0, hv => obtain rfl : a = v := by simpa using hv
             exact h0
  | 1, hv => obtain rfl : b = v := by simpa using hv
             exact h1
  | 2, hv => obtain rfl : c = v := by simpa using hv
             exact h2
  | 3, hv => obtain rfl : d = v := by simpa using hv
             exact h3
theorem toBucket_any (x y z t : Int) (w : World) :
    Calls Try.prog 92 #[.agg #[.int .i64 x, .int .i64 y, .int .i64 z, .int .i64 t]] w fun e w' => e = .returned (.agg #[.int .i64 x, .int .i64 y, .int .i64 z, .int .i64 t]) ∧ Below w.heap.size w w' := by
  go_enter Try.func92, Try.ntmps92
  go_wp2
  refine bodyPost_ret (results_one rfl _ _ _ [.int .i64 x, .int .i64 y, .int .i64 z, .int .i64 t] rfl (cells_four (by go_simp) (by go_simp) (by go_simp) (by go_simp)) Try.underlying57 rfl (by kernel_rfl)) rfl ?_
  exact ⟨rfl, by go_grown⟩
theorem eqBucket_same (x y z t : Int) (w : World) :
    Calls Try.prog 110 #[.agg #[.int .i64 x, .int .i64 y, .int .i64 z, .int .i64 t], .agg #[.int .i64 x, .int .i64 y, .int .i64 z, .int .i64 t]] w fun e w' => e = .returned (.bool true) ∧ Below w.heap.size w w' := by
  go_enter Try.func110, Try.ntmps110
  go_wp2
  go_ret
  exact ⟨rfl, by go_grown⟩
theorem set_same4 {w : World} {a : Addr} {u : Value} (v : Value) (h : w.cell? a = some u) : (w.setCell a v).cell? a = some v := World.cell?_setCell_same' w a v (by rw [h]; rfl)
theorem set_other4 {w : World} {b i j : Nat} {v : Value} (h : i ≠ j) : (w.setCell ⟨b, i, none⟩ v).cell? ⟨b, j, none⟩ = w.cell? ⟨b, j, none⟩ := by
  apply World.cell?_setCell_other
  intro e
  injection e with _ e _
  exact h e
/-- A struct of four that is stored. -/
theorem cells_set4 {w : World} {g : Nat} {u0 u1 u2 u3 : Value} (a b c d : Value) (h0 : w.cell? ⟨g, 0, none⟩ = some u0) (h1 : w.cell? ⟨g, 1, none⟩ = some u1) (h2 : w.cell? ⟨g, 2, none⟩ = some u2) (h3 : w.cell? ⟨g, 3, none⟩ = some u3) :
    ∀ j v, [a, b, c, d][j]? = some v → ((((w.setCell ⟨g, 0, none⟩ a).setCell ⟨g, 1, none⟩ b).setCell ⟨g, 2, none⟩ c).setCell ⟨g, 3, none⟩ d).cell? ⟨g, j, none⟩ = some v :=
  cells_four ((set_other4 (by decide)).trans ((set_other4 (by decide)).trans ((set_other4 (by decide)).trans (set_same4 _ h0))))
    ((set_other4 (by decide)).trans ((set_other4 (by decide)).trans (set_same4 _ ((set_other4 (by decide)).trans h1))))
    ((set_other4 (by decide)).trans (set_same4 _ ((set_other4 (by decide)).trans ((set_other4 (by decide)).trans h2))))
    (set_same4 _ ((set_other4 (by decide)).trans ((set_other4 (by decide)).trans ((set_other4 (by decide)).trans h3))))
theorem set4_all {w : World} {g : Nat} {u0 u1 u2 u3 : Value} (a b c d : Value) (h0 : w.cell? ⟨g, 0, none⟩ = some u0) (h1 : w.cell? ⟨g, 1, none⟩ = some u1) (h2 : w.cell? ⟨g, 2, none⟩ = some u2) (h3 : w.cell? ⟨g, 3, none⟩ = some u3) :
    ((((w.setCell ⟨g, 0, none⟩ a).setCell ⟨g, 1, none⟩ b).setCell ⟨g, 2, none⟩ c).setCell ⟨g, 3, none⟩ d).cell? ⟨g, 0, none⟩ = some a ∧ ((((w.setCell ⟨g, 0, none⟩ a).setCell ⟨g, 1, none⟩ b).setCell ⟨g, 2, none⟩ c).setCell ⟨g, 3, none⟩ d).cell? ⟨g, 1, none⟩ = some b ∧
    ((((w.setCell ⟨g, 0, none⟩ a).setCell ⟨g, 1, none⟩ b).setCell ⟨g, 2, none⟩ c).setCell ⟨g, 3, none⟩ d).cell? ⟨g, 2, none⟩ = some c ∧ ((((w.setCell ⟨g, 0, none⟩ a).setCell ⟨g, 1, none⟩ b).setCell ⟨g, 2, none⟩ c).setCell ⟨g, 3, none⟩ d).cell? ⟨g, 3, none⟩ = some d :=
  ⟨cells_set4 a b c d h0 h1 h2 h3 0 a rfl, cells_set4 a b c d h0 h1 h2 h3 1 b rfl, cells_set4 a b c d h0 h1 h2 h3 2 c rfl, cells_set4 a b c d h0 h1 h2 h3 3 d rfl⟩
/-- A struct of four is stored over: the world behind it as a letter. -/
theorem over4 {w : World} {g : Nat} {u0 u1 u2 u3 : Value} (a b c d : Value) (h0 : w.cell? ⟨g, 0, none⟩ = some u0) (h1 : w.cell? ⟨g, 1, none⟩ = some u1) (h2 : w.cell? ⟨g, 2, none⟩ = some u2) (h3 : w.cell? ⟨g, 3, none⟩ = some u3) :
    ∃ w4, w4 = ((((w.setCell ⟨g, 0, none⟩ a).setCell ⟨g, 1, none⟩ b).setCell ⟨g, 2, none⟩ c).setCell ⟨g, 3, none⟩ d) ∧ w4.cell? ⟨g, 0, none⟩ = some a ∧ w4.cell? ⟨g, 1, none⟩ = some b ∧ w4.cell? ⟨g, 2, none⟩ = some c ∧ w4.cell? ⟨g, 3, none⟩ = some d ∧
      (∀ k o : Nat, k ≠ g → w4.cell? ⟨k, o, none⟩ = w.cell? ⟨k, o, none⟩) ∧ (∀ k o : Nat, w4.frozen? ⟨k, o, none⟩ = w.frozen? ⟨k, o, none⟩) ∧ w4.heap.size = w.heap.size ∧ (∀ B, B ≤ g → Below B w w4) := by
  obtain ⟨s0, s1, s2, s3⟩ := set4_all a b c d h0 h1 h2 h3
  refine ⟨_, rfl, s0, s1, s2, s3, ?_, fun k o => by simp, by simp, fun B hB => ((((Below.refl B w).setCell (by exact hB) _).setCell (by exact hB) _).setCell (by exact hB) _).setCell (by exact hB) _⟩
  intro k o hk
  have far : ∀ (x : World) (i : Nat) (v : Value), (x.setCell ⟨g, i, none⟩ v).cell? ⟨k, o, none⟩ = x.cell? ⟨k, o, none⟩ := fun x i v => World.cell?_setCell_other _ _ _ _ (fun e => hk (by injection e with e; exact e.symm))
  rw [far, far, far, far]
theorem below_cells4 {w w' : World} (h : Below w.heap.size w w') : ∀ b o : Nat, b < w.heap.size → w'.cell? ⟨b, o, none⟩ = w.cell? ⟨b, o, none⟩ := fun b o hb => h.cell (by exact hb)
theorem below_frozens4 {w w' : World} (h : Below w.heap.size w w') : ∀ b o : Nat, b < w.heap.size → w'.frozen? ⟨b, o, none⟩ = w.frozen? ⟨b, o, none⟩ := fun b o hb => h.frozen (by exact hb)
theorem below_two {w x y : World} (h : Below w.heap.size w x) (k : Below x.heap.size x y) : Below w.heap.size w y := h.trans (k.mono h.size)
theorem start2 {w w' : World} {A B : Obj} (h : Below ((w.alloc A).alloc B).heap.size ((w.alloc A).alloc B) w') : Below w.heap.size w w' := below_two (by go_grown) h
theorem size2b {w w' : World} {A B : Obj} (h : Below ((w.alloc A).alloc B).heap.size ((w.alloc A).alloc B) w') : w.heap.size + 1 < w'.heap.size := by
  have := h.size
  simp at this
  omega
theorem start1 {w w' : World} {A : Obj} (h : Below (w.alloc A).heap.size (w.alloc A) w') : Below w.heap.size w w' := below_two (by go_grown) h
end Go.Proofs.Ytibfclfidaofkas
namespace Go.Proofs.Ytibfclfidaofkas
open Go.ChangeShapes Go.WideShapes Go.ChangeAt Go.RowKit
set_option maxRecDepth 100000
set_option linter.unusedVariables false

abbrev Q4 := Int × Int × Int × Int
def aggQ (x : Q4) : Value := .agg #[.int .i64 x.1, .int .i64 x.2.1, .int .i64 x.2.2.1, .int .i64 x.2.2.2]
/-- The fours xs lie at a, below block B. -/
def Quad (B : Nat) (w : World) (a : Option Addr) (xs : List Q4) : Prop :=
  ∀ i (h : i < xs.length), ∃ b off, a = some ⟨b, off, none⟩ ∧ b < B ∧ w.cell? ⟨b, off + i * 4, none⟩ = some (.int .i64 xs[i].1) ∧ w.cell? ⟨b, off + i * 4 + 1, none⟩ = some (.int .i64 xs[i].2.1) ∧ w.cell? ⟨b, off + i * 4 + 2, none⟩ = some (.int .i64 xs[i].2.2.1) ∧ w.cell? ⟨b, off + i * 4 + 3, none⟩ = some (.int .i64 xs[i].2.2.2)
theorem Quad.nil (B : Nat) (w : World) (a : Option Addr) : Quad B w a [] := fun i h => by cases h
theorem Quad.at {B : Nat} {w : World} {a : Option Addr} {xs : List Q4} (h : Quad B w a xs) {w' : World} (hb : Below B w w') (k : Nat) (hk : k < xs.length) :
    ∃ b off, a = some ⟨b, off, none⟩ ∧ b < B ∧ w'.cell? ⟨b, off + k * 4, none⟩ = some (.int .i64 xs[k].1) ∧ w'.cell? ⟨b, off + k * 4 + 1, none⟩ = some (.int .i64 xs[k].2.1) ∧ w'.cell? ⟨b, off + k * 4 + 2, none⟩ = some (.int .i64 xs[k].2.2.1) ∧ w'.cell? ⟨b, off + k * 4 + 3, none⟩ = some (.int .i64 xs[k].2.2.2) := by
  obtain ⟨b, off, e, hlt, c0, c1, c2, c3⟩ := h k hk
  exact ⟨b, off, e, hlt, (hb.cell (by exact hlt)).trans c0, (hb.cell (by exact hlt)).trans c1, (hb.cell (by exact hlt)).trans c2, (hb.cell (by exact hlt)).trans c3⟩
theorem Quad.mono {B : Nat} {w w' : World} {a : Option Addr} {xs : List Q4} (h : Quad B w a xs) (hb : Below B w w') : Quad B w' a xs := fun i hi => h.at hb i hi
theorem Quad.up {B B' : Nat} {w : World} {a : Option Addr} {xs : List Q4} (h : Quad B w a xs) (hb : B ≤ B') : Quad B' w a xs := fun i hi => by
  obtain ⟨b, off, e, hl, c⟩ := h i hi
  exact ⟨b, off, e, Nat.lt_of_lt_of_le hl hb, c⟩
theorem Quad.here {w x : World} {a : Option Addr} {xs : List Q4} (h : Quad w.heap.size w a xs) (hb : Below w.heap.size w x) : Quad x.heap.size x a xs := (h.mono hb).up hb.size
theorem Quad.cells {B b off : Nat} {w : World} {xs : List Q4} (h : Quad B w (some ⟨b, off, none⟩) xs) {w' : World} (hb : Below B w w') (k : Nat) (hk : k < xs.length) :
    w'.cell? ⟨b, off + k * 4, none⟩ = some (.int .i64 xs[k].1) ∧ w'.cell? ⟨b, off + k * 4 + 1, none⟩ = some (.int .i64 xs[k].2.1) ∧ w'.cell? ⟨b, off + k * 4 + 2, none⟩ = some (.int .i64 xs[k].2.2.1) ∧ w'.cell? ⟨b, off + k * 4 + 3, none⟩ = some (.int .i64 xs[k].2.2.2) := by
  obtain ⟨b', off', e, _, c⟩ := h.at hb k hk
  cases e
  exact c
/-- Block g has room for n fours; the first k are those of xs. -/
structure QFill (w : World) (g n : Nat) (xs : List Q4) (k : Nat) : Prop where
  any : ∀ j, j < n * 4 → (∃ z : Int, w.cell? ⟨g, j, none⟩ = some (.int .i64 z)) ∧ w.frozen? ⟨g, j, none⟩ = false
  got : ∀ i (h : i < xs.length), i < k → w.cell? ⟨g, i * 4, none⟩ = some (.int .i64 xs[i].1) ∧ w.cell? ⟨g, i * 4 + 1, none⟩ = some (.int .i64 xs[i].2.1) ∧ w.cell? ⟨g, i * 4 + 2, none⟩ = some (.int .i64 xs[i].2.2.1) ∧ w.cell? ⟨g, i * 4 + 3, none⟩ = some (.int .i64 xs[i].2.2.2)
theorem QFill.mono {w w' : World} {g n k : Nat} {xs : List Q4} (f : QFill w g n xs k) (h : Below w.heap.size w w') (hg : g < w.heap.size) : QFill w' g n xs k where
  any := fun j hj => by
    obtain ⟨⟨z, hz⟩, hf⟩ := f.any j hj
    exact ⟨⟨z, (h.cell (by exact hg)).trans hz⟩, (h.frozen (by exact hg)).trans hf⟩
  got := fun i hi hk => by
    obtain ⟨c0, c1, c2, c3⟩ := f.got i hi hk
    exact ⟨(h.cell (by exact hg)).trans c0, (h.cell (by exact hg)).trans c1, (h.cell (by exact hg)).trans c2, (h.cell (by exact hg)).trans c3⟩
theorem QFill.onlyO {w w' : World} {g n k : Nat} {xs : List Q4} {o : Option Nat} (f : QFill w g n xs k) (ho : OnlyO o w w') (hg : g < w.heap.size) (hn : o ≠ some g) : QFill w' g n xs k where
  any := fun j hj => ⟨by obtain ⟨z, hz⟩ := (f.any j hj).1; exact ⟨z, (ho.cell (by exact hg) (by exact hn)).trans hz⟩, (ho.frozen (by exact hg) (by exact hn)).trans (f.any j hj).2⟩
  got := fun i hi hk => by
    obtain ⟨c0, c1, c2, c3⟩ := f.got i hi hk
    exact ⟨(ho.cell (by exact hg) (by exact hn)).trans c0, (ho.cell (by exact hg) (by exact hn)).trans c1, (ho.cell (by exact hg) (by exact hn)).trans c2, (ho.cell (by exact hg) (by exact hn)).trans c3⟩
theorem QFill.far {w : World} {g n k : Nat} {xs : List Q4} (f : QFill w g n xs k) {p : Addr} (v : Value) (h : p.block ≠ g) : QFill (w.setCell p v) g n xs k where
  any := fun j hj => ⟨by obtain ⟨z, hz⟩ := (f.any j hj).1; exact ⟨z, (set_far (by exact h)).trans hz⟩, by simpa using (f.any j hj).2⟩
  got := fun i hi hk => by
    obtain ⟨c0, c1, c2, c3⟩ := f.got i hi hk
    exact ⟨(set_far (by exact h)).trans c0, (set_far (by exact h)).trans c1, (set_far (by exact h)).trans c2, (set_far (by exact h)).trans c3⟩
theorem QFill.again {w : World} {g n k : Nat} {xs : List Q4} (f : QFill w g n xs k) (ys : List Q4) : QFill w g n ys 0 := ⟨f.any, fun i hi hk => by omega⟩
theorem QFill.quad {w : World} {g n B : Nat} {xs : List Q4} (f : QFill w g n xs xs.length) (h : g < B) : Quad B w (some ⟨g, 0, none⟩) xs := fun i hi => by
  obtain ⟨c0, c1, c2, c3⟩ := f.got i hi hi
  exact ⟨g, 0, rfl, h, by rw [Nat.zero_add]; exact c0, by rw [Nat.zero_add]; exact c1, by rw [Nat.zero_add]; exact c2, by rw [Nat.zero_add]; exact c3⟩
/-- Four cells are stored over. -/
def putQ (w : World) (g o : Nat) (x : Q4) : World := (((w.setCell ⟨g, o, none⟩ (.int .i64 x.1)).setCell ⟨g, o + 1, none⟩ (.int .i64 x.2.1)).setCell ⟨g, o + 2, none⟩ (.int .i64 x.2.2.1)).setCell ⟨g, o + 3, none⟩ (.int .i64 x.2.2.2)
theorem putQ_other {w : World} {g o j : Nat} {x : Q4} (h : j < o ∨ o + 3 < j) : (putQ w g o x).cell? ⟨g, j, none⟩ = w.cell? ⟨g, j, none⟩ :=
  (set_other (by omega)).trans ((set_other (by omega)).trans ((set_other (by omega)).trans (set_other (by omega))))
theorem putQ_same {w : World} {g o : Nat} (x : Q4) {z0 z1 z2 z3 : Value} (h0 : w.cell? ⟨g, o, none⟩ = some z0) (h1 : w.cell? ⟨g, o + 1, none⟩ = some z1) (h2 : w.cell? ⟨g, o + 2, none⟩ = some z2) (h3 : w.cell? ⟨g, o + 3, none⟩ = some z3) :
    (putQ w g o x).cell? ⟨g, o, none⟩ = some (.int .i64 x.1) ∧ (putQ w g o x).cell? ⟨g, o + 1, none⟩ = some (.int .i64 x.2.1) ∧ (putQ w g o x).cell? ⟨g, o + 2, none⟩ = some (.int .i64 x.2.2.1) ∧ (putQ w g o x).cell? ⟨g, o + 3, none⟩ = some (.int .i64 x.2.2.2) :=
  ⟨(set_other (by omega)).trans ((set_other (by omega)).trans ((set_other (by omega)).trans (set_same _ h0))),
   (set_other (by omega)).trans ((set_other (by omega)).trans (set_same _ ((set_other (by omega)).trans h1))),
   (set_other (by omega)).trans (set_same _ ((set_other (by omega)).trans ((set_other (by omega)).trans h2))),
   set_same _ ((set_other (by omega)).trans ((set_other (by omega)).trans ((set_other (by omega)).trans h3)))⟩
theorem putQ_frozen {w : World} {g o : Nat} (x : Q4) (a : Addr) : (putQ w g o x).frozen? a = w.frozen? a := by unfold putQ; simp
theorem QFill.put {w : World} {g n k : Nat} {xs : List Q4} (f : QFill w g n xs k) (hk : k < xs.length) (hn : xs.length ≤ n) : QFill (putQ w g (k * 4) xs[k]) g n xs (k + 1) := by
  obtain ⟨z0, h0⟩ := (f.any (k * 4) (by omega)).1
  obtain ⟨z1, h1⟩ := (f.any (k * 4 + 1) (by omega)).1
  obtain ⟨z2, h2⟩ := (f.any (k * 4 + 2) (by omega)).1
  obtain ⟨z3, h3⟩ := (f.any (k * 4 + 3) (by omega)).1
  obtain ⟨s0, s1, s2, s3⟩ := putQ_same xs[k] h0 h1 h2 h3
  refine ⟨fun j hj => ⟨?_, (putQ_frozen _ _).trans (f.any j hj).2⟩, fun i hi hik => ?_⟩
  · by_cases e0 : j = k * 4
    · subst e0; exact ⟨_, s0⟩
    · by_cases e1 : j = k * 4 + 1
      · subst e1; exact ⟨_, s1⟩
      · by_cases e2 : j = k * 4 + 2
        · subst e2; exact ⟨_, s2⟩
        · by_cases e3 : j = k * 4 + 3
          · subst e3; exact ⟨_, s3⟩
          · obtain ⟨z, hz⟩ := (f.any j hj).1
            exact ⟨z, (putQ_other (by omega)).trans hz⟩
  · by_cases h : i = k
    · subst h
      exact ⟨s0, s1, s2, s3⟩
    · obtain ⟨c0, c1, c2, c3⟩ := f.got i hi (by omega)
      exact ⟨(putQ_other (by omega)).trans c0, (putQ_other (by omega)).trans c1, (putQ_other (by omega)).trans c2, (putQ_other (by omega)).trans c3⟩
theorem putQ_only {w : World} {g o : Nat} {x : Q4} {w0 : World} (h : Only g w0 w) : Only g w0 (putQ w g o x) := (((h.setCell rfl _).setCell rfl _).setCell rfl _).setCell rfl _
theorem putQ_below {B : Nat} {w : World} {g o : Nat} {x : Q4} {w0 : World} (h : Below B w0 w) (hg : B ≤ g) : Below B w0 (putQ w g o x) := (((h.setCell (by exact hg) _).setCell (by exact hg) _).setCell (by exact hg) _).setCell (by exact hg) _
theorem putQ_size {w : World} {g o : Nat} {x : Q4} : (putQ w g o x).heap.size = w.heap.size := by unfold putQ; simp
def marks4 (k : Int) (n : Nat) : List Q4 := (List.range n).map fun (i : Nat) => (k + 4 * (i : Int), k + 4 * (i : Int) + 1, k + 4 * (i : Int) + 2, k + 4 * (i : Int) + 3)
theorem marks4_length (k : Int) (n : Nat) : (marks4 k n).length = n := by simp [marks4]
theorem marks4_get (k : Int) (n i : Nat) (h : i < (marks4 k n).length) : (marks4 k n)[i] = (k + 4 * (i : Int), k + 4 * (i : Int) + 1, k + 4 * (i : Int) + 2, k + 4 * (i : Int) + 3) := by simp [marks4]
theorem made_quad (n j : Nat) (h : j < n * 4) : (madeCells (Value.agg #[.int .i64 0, .int .i64 0, .int .i64 0, .int .i64 0]).cells (n * 4)).toList[j]? = some (.int .i64 0) := by
  have hz : ∀ i : Nat, (#[Value.int .i64 0, Value.int .i64 0, Value.int .i64 0, Value.int .i64 0] : Array Value)[i % 4]! = .int .i64 0 := by
    intro i
    have : i % 4 = 0 ∨ i % 4 = 1 ∨ i % 4 = 2 ∨ i % 4 = 3 := by omega
    rcases this with e | e | e | e <;> rw [e] <;> rfl
  rw [Array.getElem?_toList]
  unfold madeCells
  rw [Array.getElem?_map, Array.getElem?_eq_getElem (by simpa using h)]
  show some _ = _
  rw [show ((Array.range (n * 4))[j]'(by simpa using h)) = j by simp]
  exact congrArg some (hz j)
/-! Rows of the call's own -/
def flatQ (xs : List Q4) : List Value := xs.flatMap fun x => [.int .i64 x.1, .int .i64 x.2.1, .int .i64 x.2.2.1, .int .i64 x.2.2.2]
theorem flatQ_append (xs ys : List Q4) : flatQ (xs ++ ys) = flatQ xs ++ flatQ ys := List.flatMap_append
theorem flatQ_one (x : Q4) : flatQ [x] = [.int .i64 x.1, .int .i64 x.2.1, .int .i64 x.2.2.1, .int .i64 x.2.2.2] := rfl
theorem flatQ_length (xs : List Q4) : (flatQ xs).length = xs.length * 4 := by
  induction xs with
  | nil => rfl
  | cons x xs ih =>
    show (flatQ xs).length + 1 + 1 + 1 + 1 = _
    rw [ih, List.length_cons]
    omega
theorem flatQ_get (xs : List Q4) : ∀ i (h : i < xs.length), (flatQ xs)[i * 4]? = some (.int .i64 xs[i].1) ∧ (flatQ xs)[i * 4 + 1]? = some (.int .i64 xs[i].2.1) ∧ (flatQ xs)[i * 4 + 2]? = some (.int .i64 xs[i].2.2.1) ∧ (flatQ xs)[i * 4 + 3]? = some (.int .i64 xs[i].2.2.2) := by
  induction xs with
  | nil => intro i h; cases h
  | cons x xs ih =>
    intro i h
    cases i with
    | zero => exact ⟨rfl, rfl, rfl, rfl⟩
    | succ j =>
      have hj : j < xs.length := by simpa using h
      obtain ⟨h0, h1, h2, h3⟩ := ih j hj
      have e : ∀ d, (flatQ (x :: xs))[(j + 1) * 4 + d]? = (flatQ xs)[j * 4 + d]? := by
        intro d
        show (Value.int .i64 x.1 :: Value.int .i64 x.2.1 :: Value.int .i64 x.2.2.1 :: Value.int .i64 x.2.2.2 :: flatQ xs)[(j + 1) * 4 + d]? = _
        rw [show (j + 1) * 4 + d = j * 4 + d + 1 + 1 + 1 + 1 by omega]
        simp
      have e0 := e 0
      rw [Nat.add_zero, Nat.add_zero] at e0
      rw [e0, e 1, e 2, e 3]
      exact ⟨h0, h1, h2, h3⟩
theorem flatQ_mem {xs : List Q4} {u : Value} (h : u ∈ flatQ xs) : ∃ z, u = .int .i64 z := by
  obtain ⟨x, _, hx⟩ := List.mem_flatMap.1 h
  simp only [List.mem_cons, List.not_mem_nil, or_false] at hx
  rcases hx with rfl | rfl | rfl | rfl
  · exact ⟨_, rfl⟩
  · exact ⟨_, rfl⟩
  · exact ⟨_, rfl⟩
  · exact ⟨_, rfl⟩
theorem flatQ_cell (xs : List Q4) : ∀ u ∈ flatQ xs, u.oneCell' = true := fun u hu => by obtain ⟨z, rfl⟩ := flatQ_mem hu; rfl
theorem own_quads {w : World} {base : Nat} {v : Value} {t : TypeId} {xs : List Q4} (h : w.ownsRow base t 4 v xs.length (flatQ xs)) (hn : v ≠ .slice none 0 0) :
    ∃ g cap, v = .slice (some ⟨g, 0, none⟩) xs.length cap ∧ base ≤ g ∧ g < w.heap.size ∧ QFill w g xs.length xs xs.length ∧ xs.length ≤ cap := by
  rcases h.2 with ⟨e, _⟩ | ⟨g, cap, cur, rfl, hb, hg, hnc, _⟩
  · exact absurd e hn
  · refine ⟨g, cap, rfl, hb, (h.lt g rfl).2, ⟨fun j hj => ⟨?_, h.frozenAt j⟩, fun i hi _ => ?_⟩, hnc⟩
    · have hc := h.cellAt j hj
      obtain ⟨u, hu⟩ : ∃ u, (flatQ xs)[j]? = some u := ⟨_, List.getElem?_eq_getElem (by rw [flatQ_length]; exact hj)⟩
      obtain ⟨z, rfl⟩ := flatQ_mem (List.mem_of_getElem? hu)
      exact ⟨z, hc.trans hu⟩
    · obtain ⟨h0, h1, h2, h3⟩ := flatQ_get xs i hi
      exact ⟨(h.cellAt _ (by omega)).trans h0, (h.cellAt _ (by omega)).trans h1, (h.cellAt _ (by omega)).trans h2, (h.cellAt _ (by omega)).trans h3⟩
/-! A slice of fours that came in as an argument -/
section
variable {H : Type} {enc : TypeId × Value → H} {P : Program} {w : World} {sp : Nat → Bool} {held : Bool}
theorem open_quads {t e i : TypeId} {f0 f1 f2 f3 : Field} (ht : P.underlying t = some (.slice e)) (he : P.underlying e = some (.struct #[f0, f1, f2, f3])) (hi : P.underlying i = some (.int .i64)) (t0 : f0.type = i) (t1 : f1.type = i) (t2 : f2.type = i) (t3 : f3.type = i)
    (o0 : f0.offset = 0) (o1 : f1.offset = 1) (o2 : f2.offset = 2) (o3 : f3.offset = 3) (ci : P.cellsOf i = 1) (ce : P.cellsOf e = 4) {fuel : Nat} {v : Value} {x : DataW H × List MemPlace}
    (h : DataW.trod enc P w 0 sp held fuel t [v] = some x) :
    ∃ (a : Option Addr) (cap : Nat) (xs : List Q4), v = .slice a xs.length cap ∧ Quad w.heap.size w a xs ∧ (∀ x ∈ xs, I64 x.1 ∧ I64 x.2.1 ∧ I64 x.2.2.1 ∧ I64 x.2.2.2) ∧ (a = none → xs = [] ∧ cap = 0) ∧ xs.length ≤ cap ∧ cap ≤ maxLen := by
  rcases DataW.trod_slice ht h with ⟨e1, _⟩ | ⟨a, len, cap, elems, rest, n, _, e1, _, _, hl, hm, hlen, hel, _, _⟩
  · obtain rfl : v = .slice none 0 0 := by simpa using e1
    exact ⟨none, 0, [], rfl, (fun i h => by cases h), (fun x h => by cases h), (fun _ => ⟨rfl, rfl⟩), Nat.le_refl _, (by unfold maxLen; omega)⟩
  · obtain rfl : v = .slice (some a) len cap := by simpa using e1
    have one : ∀ i, i < len → ∃ p q r s, w.cell? (a.add (i * 4)) = some (.int .i64 p) ∧ w.cell? ((a.add (i * 4)).add 1) = some (.int .i64 q) ∧ w.cell? ((a.add (i * 4)).add 2) = some (.int .i64 r) ∧ w.cell? ((a.add (i * 4)).add 3) = some (.int .i64 s) ∧ I64 p ∧ I64 q ∧ I64 r ∧ I64 s := by
      intro j hj
      obtain ⟨y, hy⟩ : ∃ y, elems[j]? = some y := ⟨_, List.getElem?_eq_getElem (by omega)⟩
      have hb := hel j hj
      rw [hy, ce, Option.bind_eq_some_iff] at hb
      obtain ⟨cs, hc, htr⟩ := hb
      obtain ⟨p, q, r, s, rfl, ip, iq, ir, is⟩ := open_ints4 he hi t0 t1 t2 t3 o0 o1 o2 o3 ci ce htr
      obtain ⟨_, _, hcell⟩ := World.cells?_some hc
      exact ⟨p, q, r, s, by simpa [Addr.add] using hcell 0 (by omega), by simpa using hcell 1 (by omega), by simpa using hcell 2 (by omega), by simpa using hcell 3 (by omega), ip, iq, ir, is⟩
    refine ⟨some a, cap, (List.range len).map fun i => (intVal (w.cell? (a.add (i * 4))), intVal (w.cell? ((a.add (i * 4)).add 1)), intVal (w.cell? ((a.add (i * 4)).add 2)), intVal (w.cell? ((a.add (i * 4)).add 3))), by simp, ?_, ?_, (fun h => by cases h), (by simpa using hl), hm⟩
    · intro i hi
      have hi' : i < len := by simpa using hi
      obtain ⟨p, q, r, s, cp, cq, cr, cs, _⟩ := one i hi'
      have hspot : a.spot = none := by
        obtain ⟨_, _, _, _, c0', _⟩ := one 0 (by omega)
        simpa [Addr.add] using World.cell?_spot c0'
      obtain ⟨b, off, spot⟩ := a
      simp only at hspot
      subst hspot
      have e2 : ((⟨b, off, none⟩ : Addr).add (i * 4)) = ⟨b, off + i * 4, none⟩ := by unfold Addr.add; split <;> simp_all
      have e3 : ((⟨b, off + i * 4, none⟩ : Addr).add 1) = ⟨b, off + i * 4 + 1, none⟩ := by simp [Addr.add]
      have e4 : ((⟨b, off + i * 4, none⟩ : Addr).add 2) = ⟨b, off + i * 4 + 2, none⟩ := by simp [Addr.add]
      have e5 : ((⟨b, off + i * 4, none⟩ : Addr).add 3) = ⟨b, off + i * 4 + 3, none⟩ := by simp [Addr.add]
      rw [e2] at cp cq cr cs
      rw [e3] at cq
      rw [e4] at cr
      rw [e5] at cs
      refine ⟨b, off, rfl, World.block_lt_of_cell? w _ cp, ?_, ?_, ?_, ?_⟩
      · simp only [List.getElem_map, List.getElem_range, e2, cp, intVal]
      · simp only [List.getElem_map, List.getElem_range, e2, e3, cq, intVal]
      · simp only [List.getElem_map, List.getElem_range, e2, e4, cr, intVal]
      · simp only [List.getElem_map, List.getElem_range, e2, e5, cs, intVal]
    · intro x hx
      obtain ⟨i, hi, rfl⟩ := List.mem_map.1 hx
      obtain ⟨p, q, r, s, cp, cq, cr, cs, ip, iq, ir, is⟩ := one i (List.mem_range.1 hi)
      simp only [cp, cq, cr, cs, intVal]
      exact ⟨ip, iq, ir, is⟩
end
theorem retQ {f g : Bool} (h : f = g) : Ending.returned (.bool f) = .returned (.bool g) := by rw [h]
end Go.Proofs.Ytibfclfidaofkas
namespace Go.Proofs.Ytibfclfidaofkas
open Go.ChangeShapes Go.WideShapes Go.ChangeAt Go.RowKit
set_option maxRecDepth 100000
set_option linter.unusedVariables false

def winB (x : Int) : Bool := decide (0 ≤ x) && decide (x ≤ 1000000000)
def segB (x : Int) : Bool := decide (1 ≤ x) && decide (x ≤ 1500)
def lvlB (u l : Int) : Bool := decide (0 ≤ l) && decide (l ≤ 1000000000 * u)
def bokB (r u l t : Int) : Bool := ((rateB r && winB u) && lvlB u l) && timeB t
theorem win_num {x : Int} (h : winB x = true) : 0 ≤ x ∧ x ≤ 1000000000 := by simpa [winB] using h
theorem seg_num {x : Int} (h : segB x = true) : 1 ≤ x ∧ x ≤ 1500 := by simpa [segB] using h
theorem lvl_num {u l : Int} (h : lvlB u l = true) : 0 ≤ l ∧ l ≤ 1000000000 * u := by simpa [lvlB] using h
theorem tim_num {x : Int} (h : timeB x = true) : 0 ≤ x ∧ x ≤ 1000000000000000 := by simpa [timeB] using h
theorem rat_num {x : Int} (h : rateB x = true) : 0 ≤ x ∧ x ≤ 1000000000000 := by simpa [rateB] using h
theorem bok_num {r u l t : Int} (h : bokB r u l t = true) : (0 ≤ r ∧ r ≤ 1000000000000) ∧ (0 ≤ u ∧ u ≤ 1000000000) ∧ (0 ≤ l ∧ l ≤ 1000000000 * u) ∧ (0 ≤ t ∧ t ≤ 1000000000000000) := by
  unfold bokB at h
  rw [Bool.and_eq_true, Bool.and_eq_true, Bool.and_eq_true] at h
  exact ⟨rat_num h.1.1.1, win_num h.1.1.2, lvl_num h.1.2, tim_num h.2⟩
theorem window_any (x : Int) (w : World) : Calls Try.prog 60 #[.int .i64 x] w fun e w' => e = .returned (.bool (winB x)) ∧ w' = w := by
  go_enter Try.func60, Try.ntmps60
  go_wp2_with (first | (go_at_call 23; refine (in_any _ _ _ _).mono ?_; rintro e w2 ⟨rfl, rfl⟩))
  go_ret
  exact ⟨rfl, rfl⟩
theorem seg_any (x : Int) (w : World) : Calls Try.prog 58 #[.int .i64 x] w fun e w' => e = .returned (.bool (segB x)) ∧ w' = w := by
  go_enter Try.func58, Try.ntmps58
  go_wp2_with (first | (go_at_call 23; refine (in_any _ _ _ _).mono ?_; rintro e w2 ⟨rfl, rfl⟩))
  go_ret
  exact ⟨rfl, rfl⟩
set_option maxHeartbeats 1000000 in
theorem specBucketOk_any (r u l t : Int) (w : World) : Calls Try.prog 55 #[.agg #[.int .i64 r, .int .i64 u, .int .i64 l, .int .i64 t]] w fun e w' => e = .returned (.bool (bokB r u l t)) ∧ Below w.heap.size w w' := by
  unfold bokB
  cases h1 : rateB r
  · go_enter Try.func55, Try.ntmps55
    go_wp2_with (first | (go_at_call 91; refine (rate_any _ _).mono ?_; rintro e w2 ⟨rfl, rfl⟩; rw [h1]))
    go_ret
    exact ⟨rfl, by go_grown⟩
  · cases h2 : winB u
    · go_enter Try.func55, Try.ntmps55
      go_wp2_with (first | (go_at_call 91; refine (rate_any _ _).mono ?_; rintro e w2 ⟨rfl, rfl⟩; rw [h1]) | (go_at_call 60; refine (window_any _ _).mono ?_; rintro e w2 ⟨rfl, rfl⟩; rw [h2]))
      go_ret
      exact ⟨rfl, by go_grown⟩
    · have n2 := win_num h2
      cases h3 : lvlB u l
      · go_enter Try.func55, Try.ntmps55
        go_wp2_with (first
          | (go_at_call 91; refine (rate_any _ _).mono ?_; rintro e w2 ⟨rfl, rfl⟩; rw [h1])
          | (go_at_call 60; refine (window_any _ _).mono ?_; rintro e w2 ⟨rfl, rfl⟩; rw [h2])
          | (go_at_call 23; refine (in_any _ _ _ _).mono ?_; rintro e w2 ⟨rfl, rfl⟩; rw [show (decide (0 ≤ l) && decide (l ≤ 1000000000 * u)) = false from h3]))
        go_ret
        exact ⟨rfl, by go_grown⟩
      · go_enter Try.func55, Try.ntmps55
        go_wp2_with (first
          | (go_at_call 91; refine (rate_any _ _).mono ?_; rintro e w2 ⟨rfl, rfl⟩; rw [h1])
          | (go_at_call 60; refine (window_any _ _).mono ?_; rintro e w2 ⟨rfl, rfl⟩; rw [h2])
          | (go_at_call 23; refine (in_any _ _ _ _).mono ?_; rintro e w2 ⟨rfl, rfl⟩; rw [show (decide (0 ≤ l) && decide (l ≤ 1000000000 * u)) = true from h3])
          | (go_at_call 21; refine (time_any _ _).mono ?_; rintro e w2 ⟨rfl, rfl⟩))
        go_ret
        exact ⟨rfl, by go_grown⟩
/-- A bucket as a value. -/
abbrev bkV (a : Int × Int × Int × Int) : Value := .agg #[.int .i64 a.1, .int .i64 a.2.1, .int .i64 a.2.2.1, .int .i64 a.2.2.2]
def fullOk (r u t : Int) : Bool := (rateB r && winB u) && timeB t
def fullOf (r u t : Int) : Int × Int × Int × Int := if fullOk r u t = true then (r, u, 1000000000 * u, t) else (0, 0, 0, 0)
set_option maxHeartbeats 1000000 in
theorem specFull_any (r u t : Int) (w : World) : Calls Try.prog 81 #[.int .i64 r, .int .i64 u, .int .i64 t] w fun e w' => e = .returned (.tuple #[bkV (fullOf r u t), .bool (fullOk r u t)]) ∧ Below w.heap.size w w' := by
  have no : fullOk r u t = false → Calls Try.prog 81 #[.int .i64 r, .int .i64 u, .int .i64 t] w fun e w' => e = .returned (.tuple #[.agg #[.int .i64 0, .int .i64 0, .int .i64 0, .int .i64 0], .bool false]) ∧ Below w.heap.size w w' := by
    intro h
    cases h1 : rateB r <;> cases h2 : winB u <;> cases h3 : timeB t
    all_goals first
      | (exfalso; unfold fullOk at h; rw [h1, h2, h3] at h; cases h; done)
      | (go_enter Try.func81, Try.ntmps81
         go_wp2_with (first | (go_at_call 91; refine (rate_any _ _).mono ?_; rintro e w2 ⟨rfl, rfl⟩; rw [h1]) | (go_at_call 60; refine (window_any _ _).mono ?_; rintro e w2 ⟨rfl, rfl⟩; rw [h2]) | (go_at_call 21; refine (time_any _ _).mono ?_; rintro e w2 ⟨rfl, rfl⟩; rw [h3]))
         refine bodyPost_ret (results_two rfl _ _ _ [.int .i64 0, .int .i64 0, .int .i64 0, .int .i64 0] rfl (cells_four (by go_simp) (by go_simp) (by go_simp) (by go_simp)) Try.underlying57 rfl (by kernel_rfl)) rfl ?_
         exact ⟨rfl, by go_grown⟩)
  cases h : fullOk r u t
  · refine (no h).mono ?_
    rintro e w' ⟨rfl, hb⟩
    refine ⟨?_, hb⟩
    unfold fullOf
    rw [h]
    rfl
  · have h' := h
    unfold fullOk at h'
    rw [Bool.and_eq_true, Bool.and_eq_true] at h'
    obtain ⟨⟨h1, h2⟩, h3⟩ := h'
    have n2 := win_num h2
    have e0 : fullOf r u t = (r, u, 1000000000 * u, t) := by unfold fullOf; rw [h]; rfl
    rw [e0]
    clear e0 h
    go_enter Try.func81, Try.ntmps81
    go_wp2_with (first | (go_at_call 91; refine (rate_any _ _).mono ?_; rintro e w2 ⟨rfl, rfl⟩; rw [h1]) | (go_at_call 60; refine (window_any _ _).mono ?_; rintro e w2 ⟨rfl, rfl⟩; rw [h2]) | (go_at_call 21; refine (time_any _ _).mono ?_; rintro e w2 ⟨rfl, rfl⟩; rw [h3]))
    refine bodyPost_ret (results_two rfl _ _ _ [.int .i64 r, .int .i64 u, .int .i64 (1000000000 * u), .int .i64 t] rfl (cells_four (by go_simp) (by go_simp) (by go_simp) (by go_simp)) Try.underlying57 rfl (by kernel_rfl)) rfl ?_
    exact ⟨rfl, by go_grown⟩
end Go.Proofs.Ytibfclfidaofkas
namespace Go.Proofs.Ytibfclfidaofkas
open Go.ChangeShapes Go.WideShapes Go.ChangeAt Go.RowKit
set_option maxRecDepth 100000
set_option linter.unusedVariables false

def fillL (r u l t now : Int) : Int := if now ≤ t then l else min (1000000000 * u) (l + r * (now - t))
def fillT (t now : Int) : Int := if now ≤ t then t else now
theorem md_one {r d : Int} (hr : 0 ≤ r) (hd : 0 ≤ d) : mdOk r d 1 = decide (r * d ≤ 9223372036854775807) ∧ (mdOk r d 1 = true → mdQ r d 1 = r * d) := by
  have e : mdOk r d 1 = decide (r * d ≤ 9223372036854775807) := by
    unfold mdOk
    rw [Int.ediv_one]
    by_cases h : r * d ≤ 9223372036854775807
    · rw [decide_eq_true h, decide_eq_true ⟨hr, hd, by omega, h⟩]
    · rw [decide_eq_false h, decide_eq_false (fun k => h k.2.2.2)]
  refine ⟨e, fun h => ?_⟩
  unfold mdQ
  rw [if_pos h, Int.ediv_one]
/-- Added up and held at the bound. -/
theorem fill_yes {u l P : Int} (hu : 0 ≤ u ∧ u ≤ 1000000000) (hl : 0 ≤ l ∧ l ≤ 1000000000 * u) (h0 : 0 ≤ P) (hP : P ≤ 9223372036854775807) : min (1000000000 * u) (satAdd l P) = min (1000000000 * u) (l + P) := by
  unfold satAdd
  split
  · rw [Int.min_eq_left (by omega), Int.min_eq_left (by omega)]
  · rw [if_neg (by omega)]
theorem fill_no {u l P : Int} (hu : 0 ≤ u ∧ u ≤ 1000000000) (hl : 0 ≤ l ∧ l ≤ 1000000000 * u) (hP : 9223372036854775807 < P) : min (1000000000 * u) (satAdd l (1000000000 * u)) = min (1000000000 * u) (l + P) := by
  unfold satAdd
  rw [if_neg (by omega), if_neg (by omega), Int.min_eq_left (by omega), Int.min_eq_left (by omega)]
theorem fill_bounds {r u l t now : Int} (hu : 0 ≤ u ∧ u ≤ 1000000000) (hl : 0 ≤ l ∧ l ≤ 1000000000 * u) (hr : 0 ≤ r) : 0 ≤ fillL r u l t now ∧ fillL r u l t now ≤ 1000000000 * u := by
  unfold fillL
  split
  · exact hl
  · rename_i h
    have : 0 ≤ r * (now - t) := Int.mul_nonneg hr (by omega)
    exact ⟨by rw [Int.le_min]; omega, Int.min_le_left _ _⟩
end Go.Proofs.Ytibfclfidaofkas
namespace Go.Proofs.Ytibfclfidaofkas
open Go.ChangeShapes Go.WideShapes Go.ChangeAt Go.RowKit
set_option maxRecDepth 100000
set_option linter.unusedVariables false

/-- v is a list: the items xs in a block of their own from lo on, or none and no room. -/
def QV (w : World) (lo : Nat) (v : Value) (xs : List Q4) : Prop :=
  (∃ g cap, v = .slice (some ⟨g, 0, none⟩) xs.length cap ∧ lo ≤ g ∧ g < w.heap.size ∧ QFill w g xs.length xs xs.length ∧ xs.length ≤ cap) ∨ ((∃ a, v = .slice a 0 0) ∧ xs = [])
theorem QV.zero (w : World) (lo : Nat) (a : Option Addr) : QV w lo (.slice a 0 0) [] := .inr ⟨⟨a, rfl⟩, rfl⟩
theorem QV.room {w : World} {lo : Nat} {v : Value} {xs : List Q4} (h : QV w lo v xs) :
    (∃ g cap, v = .slice (some ⟨g, 0, none⟩) xs.length (cap + 1) ∧ lo ≤ g ∧ g < w.heap.size ∧ QFill w g xs.length xs xs.length ∧ xs.length ≤ cap + 1) ∨ ((∃ a, v = .slice a 0 0) ∧ xs = []) := by
  rcases h with ⟨g, cap, e, h1, h2, f, hc⟩ | h
  · cases cap with
    | zero =>
      have hy : xs = [] := List.eq_nil_of_length_eq_zero (by omega)
      subst hy
      exact .inr ⟨⟨_, e⟩, rfl⟩
    | succ cap => exact .inl ⟨g, cap, e, h1, h2, f, hc⟩
  · exact .inr h
theorem QV.own {w : World} {lo : Nat} {v : Value} {xs : List Q4} (h : QV w lo v xs) {g : Nat} (hg : roomB v = some g) : lo ≤ g ∧ g < w.heap.size := by
  rcases h.room with ⟨g', cap, rfl, h1, h2, _⟩ | ⟨⟨a, rfl⟩, _⟩
  · injection hg with hg
    have e : g' = g := hg
    subst e
    exact ⟨h1, h2⟩
  · rw [room_zero] at hg
    cases hg
theorem QV.next {w w' : World} {lo : Nat} {v : Value} {xs : List Q4} (h : QV w lo v xs) (hb : Below w.heap.size w w') : QV w' lo v xs := by
  rcases h with ⟨g, cap, rfl, h1, h2, f, hc⟩ | h
  · exact .inl ⟨g, cap, rfl, h1, Nat.lt_of_lt_of_le h2 hb.size, f.mono hb h2, hc⟩
  · exact .inr h
theorem QV.onlyO {w w' : World} {lo : Nat} {o : Option Nat} {v : Value} {xs : List Q4} (h : QV w lo v xs) (hb : OnlyO o w w') (hv : ∀ g, roomB v = some g → o ≠ some g) : QV w' lo v xs := by
  rcases h.room with ⟨g, cap, rfl, h1, h2, f, hc⟩ | h
  · exact .inl ⟨g, _, rfl, h1, Nat.lt_of_lt_of_le h2 hb.size, f.onlyO hb h2 (hv g rfl), hc⟩
  · exact .inr h
theorem QV.lower {w : World} {lo lo' : Nat} {v : Value} {xs : List Q4} (h : QV w lo v xs) (hl : lo' ≤ lo) : QV w lo' v xs := by
  rcases h with ⟨g, cap, rfl, h1, h2, f, hc⟩ | h
  · exact .inl ⟨g, cap, rfl, Nat.le_trans hl h1, h2, f, hc⟩
  · exact .inr h
theorem QV.quad {w : World} {lo n c : Nat} {a : Option Addr} {xs : List Q4} (h : QV w lo (.slice a n c) xs) : n = xs.length ∧ Quad w.heap.size w a xs := by
  rcases h with ⟨g, cap, e, h1, h2, f, hc⟩ | ⟨⟨a', e⟩, rfl⟩
  · injection e with e1 e2 e3
    subst e1 e2
    exact ⟨rfl, f.quad h2⟩
  · injection e with e1 e2 e3
    exact ⟨e2, Quad.nil _ _ _⟩
theorem QV.slice {w : World} {lo : Nat} {v : Value} {xs : List Q4} (h : QV w lo v xs) : ∃ a c, v = .slice a xs.length c := by
  rcases h with ⟨g, cap, rfl, _⟩ | ⟨⟨a, rfl⟩, rfl⟩
  · exact ⟨_, _, rfl⟩
  · exact ⟨a, 0, rfl⟩
theorem own_qv {w : World} {base : Nat} {v : Value} {t : TypeId} {xs : List Q4} (h : w.ownsRow base t 4 v xs.length (flatQ xs)) : QV w base v xs := by
  by_cases hn : v = .slice none 0 0
  · rcases h.2 with ⟨_, e2⟩ | ⟨g, cap, cur, e, _⟩
    · exact .inr ⟨⟨none, hn⟩, List.eq_nil_of_length_eq_zero e2⟩
    · rw [e] at hn
      injection hn with hn
      cases hn
  · obtain ⟨g, cap, rfl, h1, h2, f, hc⟩ := own_quads h hn
    exact .inl ⟨g, cap, rfl, h1, h2, f, hc⟩
/-- Three lists in blocks of their own, each its own. -/
structure LV (w : World) (lo : Nat) (sT sO sP : Value) (T O P : List Q4) : Prop where
  t : QV w lo sT T
  o : QV w lo sO O
  p : QV w lo sP P
  to : ∀ g, roomB sT = some g → roomB sO ≠ some g
  tp : ∀ g, roomB sT = some g → roomB sP ≠ some g
  op : ∀ g, roomB sO = some g → roomB sP ≠ some g
theorem LV.next {w w' : World} {lo : Nat} {sT sO sP : Value} {T O P : List Q4} (h : LV w lo sT sO sP T O P) (hb : Below w.heap.size w w') : LV w' lo sT sO sP T O P := ⟨h.t.next hb, h.o.next hb, h.p.next hb, h.to, h.tp, h.op⟩
theorem LV.lower {w : World} {lo lo' : Nat} {sT sO sP : Value} {T O P : List Q4} (h : LV w lo sT sO sP T O P) (hl : lo' ≤ lo) : LV w lo' sT sO sP T O P := ⟨h.t.lower hl, h.o.lower hl, h.p.lower hl, h.to, h.tp, h.op⟩
theorem LV.zero (w : World) (lo : Nat) : LV w lo (.slice none 0 0) (.slice none 0 0) (.slice none 0 0) [] [] [] := ⟨QV.zero _ _ _, QV.zero _ _ _, QV.zero _ _ _, fun g h => (by cases h), fun g h => (by cases h), fun g h => (by cases h)⟩
end Go.Proofs.Ytibfclfidaofkas
