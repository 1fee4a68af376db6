/- Lists of four numbers in memory. -/
import Derived.Test.YtcepopboldnicalToSmp
import Derived.Test.YtcepopboldnicalCur
import Derived.Test.YtcepopboldnicalBuck
import Derived.Test.YtcepopboldnicalOwnV
import Derived.Laws.AppendOwn
namespace Go.Proofs.Ytcepopboldnical
open Go.ChangeShapes Go.WideShapes Go.ChangeAt Go.RowKit
set_option maxRecDepth 100000
set_option linter.unusedVariables false

abbrev Q4 := Int × Int × Int × Int
def aggQ (x : Q4) : Value := .agg #[.int .i64 x.1, .int .i64 x.2.1, .int .i64 x.2.2.1, .int .i64 x.2.2.2]
/-- The fours xs lie at a, below block B. -/
def Quad (B : Nat) (w : World) (a : Option Addr) (xs : List Q4) : Prop :=
  ∀ i (h : i < xs.length), ∃ b off, a = some ⟨b, off, none⟩ ∧ b < B ∧ w.cell? ⟨b, off + i * 4, none⟩ = some (.int .i64 xs[i].1) ∧ w.cell? ⟨b, off + i * 4 + 1, none⟩ = some (.int .i64 xs[i].2.1) ∧ w.cell? ⟨b, off + i * 4 + 2, none⟩ = some (.int .i64 xs[i].2.2.1) ∧ w.cell? ⟨b, off + i * 4 + 3, none⟩ = some (.int .i64 xs[i].2.2.2)
theorem Quad.nil (B : Nat) (w : World) (a : Option Addr) : Quad B w a [] := fun i h => by cases h
theorem Quad.at {B : Nat} {w : World} {a : Option Addr} {xs : List Q4} (h : Quad B w a xs) {w' : World} (hb : Below B w w') (k : Nat) (hk : k < xs.length) :
    ∃ b off, a = some ⟨b, off, none⟩ ∧ b < B ∧ w'.cell? ⟨b, off + k * 4, none⟩ = some (.int .i64 xs[k].1) ∧ w'.cell? ⟨b, off + k * 4 + 1, none⟩ = some (.int .i64 xs[k].2.1) ∧ w'.cell? ⟨b, off + k * 4 + 2, none⟩ = some (.int .i64 xs[k].2.2.1) ∧ w'.cell? ⟨b, off + k * 4 + 3, none⟩ = some (.int .i64 xs[k].2.2.2) := by
  obtain ⟨b, off, e, hlt, c0, c1, c2, c3⟩ := h k hk
  exact ⟨b, off, e, hlt, (hb.cell (by exact hlt)).trans c0, (hb.cell (by exact hlt)).trans c1, (hb.cell (by exact hlt)).trans c2, (hb.cell (by exact hlt)).trans c3⟩
theorem Quad.mono {B : Nat} {w w' : World} {a : Option Addr} {xs : List Q4} (h : Quad B w a xs) (hb : Below B w w') : Quad B w' a xs := fun i hi => h.at hb i hi
theorem Quad.up {B B' : Nat} {w : World} {a : Option Addr} {xs : List Q4} (h : Quad B w a xs) (hb : B ≤ B') : Quad B' w a xs := fun i hi => by
  obtain ⟨b, off, e, hl, c⟩ := h i hi
  exact ⟨b, off, e, Nat.lt_of_lt_of_le hl hb, c⟩
theorem Quad.here {w x : World} {a : Option Addr} {xs : List Q4} (h : Quad w.heap.size w a xs) (hb : Below w.heap.size w x) : Quad x.heap.size x a xs := (h.mono hb).up hb.size
theorem Quad.cells {B b off : Nat} {w : World} {xs : List Q4} (h : Quad B w (some ⟨b, off, none⟩) xs) {w' : World} (hb : Below B w w') (k : Nat) (hk : k < xs.length) :
    w'.cell? ⟨b, off + k * 4, none⟩ = some (.int .i64 xs[k].1) ∧ w'.cell? ⟨b, off + k * 4 + 1, none⟩ = some (.int .i64 xs[k].2.1) ∧ w'.cell? ⟨b, off + k * 4 + 2, none⟩ = some (.int .i64 xs[k].2.2.1) ∧ w'.cell? ⟨b, off + k * 4 + 3, none⟩ = some (.int .i64 xs[k].2.2.2) := by
  obtain ⟨b', off', e, _, c⟩ := h.at hb k hk
  cases e
  exact c
/-- Block g has room for n fours; the first k are those of xs. -/
structure QFill (w : World) (g n : Nat) (xs : List Q4) (k : Nat) : Prop where
  any : ∀ j, j < n * 4 → (∃ z : Int, w.cell? ⟨g, j, none⟩ = some (.int .i64 z)) ∧ w.frozen? ⟨g, j, none⟩ = false
  got : ∀ i (h : i < xs.length), i < k → w.cell? ⟨g, i * 4, none⟩ = some (.int .i64 xs[i].1) ∧ w.cell? ⟨g, i * 4 + 1, none⟩ = some (.int .i64 xs[i].2.1) ∧ w.cell? ⟨g, i * 4 + 2, none⟩ = some (.int .i64 xs[i].2.2.1) ∧ w.cell? ⟨g, i * 4 + 3, none⟩ = some (.int .i64 xs[i].2.2.2)
theorem QFill.mono {w w' : World} {g n k : Nat} {xs : List Q4} (f : QFill w g n xs k) (h : Below w.heap.size w w') (hg : g < w.heap.size) : QFill w' g n xs k where
  any := fun j hj => by
    obtain ⟨⟨z, hz⟩, hf⟩ := f.any j hj
    exact ⟨⟨z, (h.cell (by exact hg)).trans hz⟩, (h.frozen (by exact hg)).trans hf⟩
  got := fun i hi hk => by
    obtain ⟨c0, c1, c2, c3⟩ := f.got i hi hk
    exact ⟨(h.cell (by exact hg)).trans c0, (h.cell (by exact hg)).trans c1, (h.cell (by exact hg)).trans c2, (h.cell (by exact hg)).trans c3⟩
theorem QFill.onlyO {w w' : World} {g n k : Nat} {xs : List Q4} {o : Option Nat} (f : QFill w g n xs k) (ho : OnlyO o w w') (hg : g < w.heap.size) (hn : o ≠ some g) : QFill w' g n xs k where
  any := fun j hj => ⟨by obtain ⟨z, hz⟩ := (f.any j hj).1; exact ⟨z, (ho.cell (by exact hg) (by exact hn)).trans hz⟩, (ho.frozen (by exact hg) (by exact hn)).trans (f.any j hj).2⟩
  got := fun i hi hk => by
    obtain ⟨c0, c1, c2, c3⟩ := f.got i hi hk
    exact ⟨(ho.cell (by exact hg) (by exact hn)).trans c0, (ho.cell (by exact hg) (by exact hn)).trans c1, (ho.cell (by exact hg) (by exact hn)).trans c2, (ho.cell (by exact hg) (by exact hn)).trans c3⟩
theorem QFill.far {w : World} {g n k : Nat} {xs : List Q4} (f : QFill w g n xs k) {p : Addr} (v : Value) (h : p.block ≠ g) : QFill (w.setCell p v) g n xs k where
  any := fun j hj => ⟨by obtain ⟨z, hz⟩ := (f.any j hj).1; exact ⟨z, (set_far (by exact h)).trans hz⟩, by simpa using (f.any j hj).2⟩
  got := fun i hi hk => by
    obtain ⟨c0, c1, c2, c3⟩ := f.got i hi hk
    exact ⟨(set_far (by exact h)).trans c0, (set_far (by exact h)).trans c1, (set_far (by exact h)).trans c2, (set_far (by exact h)).trans c3⟩
theorem QFill.again {w : World} {g n k : Nat} {xs : List Q4} (f : QFill w g n xs k) (ys : List Q4) : QFill w g n ys 0 := ⟨f.any, fun i hi hk => by omega⟩
theorem QFill.quad {w : World} {g n B : Nat} {xs : List Q4} (f : QFill w g n xs xs.length) (h : g < B) : Quad B w (some ⟨g, 0, none⟩) xs := fun i hi => by
  obtain ⟨c0, c1, c2, c3⟩ := f.got i hi hi
  exact ⟨g, 0, rfl, h, by rw [Nat.zero_add]; exact c0, by rw [Nat.zero_add]; exact c1, by rw [Nat.zero_add]; exact c2, by rw [Nat.zero_add]; exact c3⟩
/-- Four cells are stored over. -/
def putQ (w : World) (g o : Nat) (x : Q4) : World := (((w.setCell ⟨g, o, none⟩ (.int .i64 x.1)).setCell ⟨g, o + 1, none⟩ (.int .i64 x.2.1)).setCell ⟨g, o + 2, none⟩ (.int .i64 x.2.2.1)).setCell ⟨g, o + 3, none⟩ (.int .i64 x.2.2.2)
theorem putQ_other {w : World} {g o j : Nat} {x : Q4} (h : j < o ∨ o + 3 < j) : (putQ w g o x).cell? ⟨g, j, none⟩ = w.cell? ⟨g, j, none⟩ :=
  (set_other (by omega)).trans ((set_other (by omega)).trans ((set_other (by omega)).trans (set_other (by omega))))
theorem putQ_same {w : World} {g o : Nat} (x : Q4) {z0 z1 z2 z3 : Value} (h0 : w.cell? ⟨g, o, none⟩ = some z0) (h1 : w.cell? ⟨g, o + 1, none⟩ = some z1) (h2 : w.cell? ⟨g, o + 2, none⟩ = some z2) (h3 : w.cell? ⟨g, o + 3, none⟩ = some z3) :
    (putQ w g o x).cell? ⟨g, o, none⟩ = some (.int .i64 x.1) ∧ (putQ w g o x).cell? ⟨g, o + 1, none⟩ = some (.int .i64 x.2.1) ∧ (putQ w g o x).cell? ⟨g, o + 2, none⟩ = some (.int .i64 x.2.2.1) ∧ (putQ w g o x).cell? ⟨g, o + 3, none⟩ = some (.int .i64 x.2.2.2) :=
  ⟨(set_other (by omega)).trans ((set_other (by omega)).trans ((set_other (by omega)).trans (set_same _ h0))),
   (set_other (by omega)).trans ((set_other (by omega)).trans (set_same _ ((set_other (by omega)).trans h1))),
   (set_other (by omega)).trans (set_same _ ((set_other (by omega)).trans ((set_other (by omega)).trans h2))),
   set_same _ ((set_other (by omega)).trans ((set_other (by omega)).trans ((set_other (by omega)).trans h3)))⟩
theorem putQ_frozen {w : World} {g o : Nat} (x : Q4) (a : Addr) : (putQ w g o x).frozen? a = w.frozen? a := by unfold putQ; simp
theorem QFill.put {w : World} {g n k : Nat} {xs : List Q4} (f : QFill w g n xs k) (hk : k < xs.length) (hn : xs.length ≤ n) : QFill (putQ w g (k * 4) xs[k]) g n xs (k + 1) := by
  obtain ⟨z0, h0⟩ := (f.any (k * 4) (by omega)).1
  obtain ⟨z1, h1⟩ := (f.any (k * 4 + 1) (by omega)).1
  obtain ⟨z2, h2⟩ := (f.any (k * 4 + 2) (by omega)).1
  obtain ⟨z3, h3⟩ := (f.any (k * 4 + 3) (by omega)).1
  obtain ⟨s0, s1, s2, s3⟩ := putQ_same xs[k] h0 h1 h2 h3
  refine ⟨fun j hj => ⟨?_, (putQ_frozen _ _).trans (f.any j hj).2⟩, fun i hi hik => ?_⟩
  · by_cases e0 : j = k * 4
    · subst e0; exact ⟨_, s0⟩
    · by_cases e1 : j = k * 4 + 1
      · subst e1; exact ⟨_, s1⟩
      · by_cases e2 : j = k * 4 + 2
        · subst e2; exact ⟨_, s2⟩
        · by_cases e3 : j = k * 4 + 3
          · subst e3; exact ⟨_, s3⟩
          · obtain ⟨z, hz⟩ := (f.any j hj).1
            exact ⟨z, (putQ_other (by omega)).trans hz⟩
  · by_cases h : i = k
    · subst h
      exact ⟨s0, s1, s2, s3⟩
    · obtain ⟨c0, c1, c2, c3⟩ := f.got i hi (by omega)
      exact ⟨(putQ_other (by omega)).trans c0, (putQ_other (by omega)).trans c1, (putQ_other (by omega)).trans c2, (putQ_other (by omega)).trans c3⟩
theorem putQ_only {w : World} {g o : Nat} {x : Q4} {w0 : World} (h : Only g w0 w) : Only g w0 (putQ w g o x) := (((h.setCell rfl _).setCell rfl _).setCell rfl _).setCell rfl _
theorem putQ_below {B : Nat} {w : World} {g o : Nat} {x : Q4} {w0 : World} (h : Below B w0 w) (hg : B ≤ g) : Below B w0 (putQ w g o x) := (((h.setCell (by exact hg) _).setCell (by exact hg) _).setCell (by exact hg) _).setCell (by exact hg) _
theorem putQ_size {w : World} {g o : Nat} {x : Q4} : (putQ w g o x).heap.size = w.heap.size := by unfold putQ; simp
def marks4 (k : Int) (n : Nat) : List Q4 := (List.range n).map fun (i : Nat) => (k + 4 * (i : Int), k + 4 * (i : Int) + 1, k + 4 * (i : Int) + 2, k + 4 * (i : Int) + 3)
theorem marks4_length (k : Int) (n : Nat) : (marks4 k n).length = n := by simp [marks4]
theorem marks4_get (k : Int) (n i : Nat) (h : i < (marks4 k n).length) : (marks4 k n)[i] = (k + 4 * (i : Int), k + 4 * (i : Int) + 1, k + 4 * (i : Int) + 2, k + 4 * (i : Int) + 3) := by simp [marks4]
theorem made_quad (n j : Nat) (h : j < n * 4) : (madeCells (Value.agg #[.int .i64 0, .int .i64 0, .int .i64 0, .int .i64 0]).cells (n * 4)).toList[j]? = some (.int .i64 0) := by
  have hz : ∀ i : Nat, (#[Value.int .i64 0, Value.int .i64 0, Value.int .i64 0, Value.int .i64 0] : Array Value)[i % 4]! = .int .i64 0 := by
    intro i
    have : i % 4 = 0 ∨ i % 4 = 1 ∨ i % 4 = 2 ∨ i % 4 = 3 := by omega
    rcases this with e | e | e | e <;> rw [e] <;> rfl
  rw [Array.getElem?_toList]
  unfold madeCells
  rw [Array.getElem?_map, Array.getElem?_eq_getElem (by simpa using h)]
  show some _ = _
  rw [show ((Array.range (n * 4))[j]'(by simpa using h)) = j by simp]
  exact congrArg some (hz j)
/-! Rows of the call's own -/
def flatQ (xs : List Q4) : List Value := xs.flatMap fun x => [.int .i64 x.1, .int .i64 x.2.1, .int .i64 x.2.2.1, .int .i64 x.2.2.2]
theorem flatQ_append (xs ys : List Q4) : flatQ (xs ++ ys) = flatQ xs ++ flatQ ys := List.flatMap_append
theorem flatQ_one (x : Q4) : flatQ [x] = [.int .i64 x.1, .int .i64 x.2.1, .int .i64 x.2.2.1, .int .i64 x.2.2.2] := rfl
theorem flatQ_length (xs : List Q4) : (flatQ xs).length = xs.length * 4 := by
  induction xs with
  | nil => rfl
  | cons x xs ih =>
    show (flatQ xs).length + 1 + 1 + 1 + 1 = _
    rw [ih, List.length_cons]
    omega
theorem flatQ_get (xs : List Q4) : ∀ i (h : i < xs.length), (flatQ xs)[i * 4]? = some (.int .i64 xs[i].1) ∧ (flatQ xs)[i * 4 + 1]? = some (.int .i64 xs[i].2.1) ∧ (flatQ xs)[i * 4 + 2]? = some (.int .i64 xs[i].2.2.1) ∧ (flatQ xs)[i * 4 + 3]? = some (.int .i64 xs[i].2.2.2) := by
  induction xs with
  | nil => intro i h; cases h
  | cons x xs ih =>
    intro i h
    cases i with
    | zero => exact ⟨rfl, rfl, rfl, rfl⟩
    | succ j =>
      have hj : j < xs.length := by simpa using h
      obtain ⟨h0, h1, h2, h3⟩ := ih j hj
      have e : ∀ d, (flatQ (x :: xs))[(j + 1) * 4 + d]? = (flatQ xs)[j * 4 + d]? := by
        intro d
        show (Value.int .i64 x.1 :: Value.int .i64 x.2.1 :: Value.int .i64 x.2.2.1 :: Value.int .i64 x.2.2.2 :: flatQ xs)[(j + 1) * 4 + d]? = _
        rw [show (j + 1) * 4 + d = j * 4 + d + 1 + 1 + 1 + 1 by omega]
        simp
      have e0 := e 0
      rw [Nat.add_zero, Nat.add_zero] at e0
      rw [e0, e 1, e 2, e 3]
      exact ⟨h0, h1, h2, h3⟩
theorem flatQ_mem {xs : List Q4} {u : Value} (h : u ∈ flatQ xs) : ∃ z, u = .int .i64 z := by
  obtain ⟨x, _, hx⟩ := List.mem_flatMap.1 h
  simp only [List.mem_cons, List.not_mem_nil, or_false] at hx
  rcases hx with rfl | rfl | rfl | rfl
  · exact ⟨_, rfl⟩
  · exact ⟨_, rfl⟩
  · exact ⟨_, rfl⟩
  · exact ⟨_, rfl⟩
theorem flatQ_cell (xs : List Q4) : ∀ u ∈ flatQ xs, u.oneCell' = true := fun u hu => by obtain ⟨z, rfl⟩ := flatQ_mem hu; rfl
theorem own_quads {w : World} {base : Nat} {v : Value} {t : TypeId} {xs : List Q4} (h : w.ownsRow base t 4 v xs.length (flatQ xs)) (hn : v ≠ .slice none 0 0) :
    ∃ g cap, v = .slice (some ⟨g, 0, none⟩) xs.length cap ∧ base ≤ g ∧ g < w.heap.size ∧ QFill w g xs.length xs xs.length ∧ xs.length ≤ cap := by
  rcases h.2 with ⟨e, _⟩ | ⟨g, cap, cur, rfl, hb, hg, hnc, _⟩
  · exact absurd e hn
  · refine ⟨g, cap, rfl, hb, (h.lt g rfl).2, ⟨fun j hj => ⟨?_, h.frozenAt j⟩, fun i hi _ => ?_⟩, hnc⟩
    · have hc := h.cellAt j hj
      obtain ⟨u, hu⟩ : ∃ u, (flatQ xs)[j]? = some u := ⟨_, List.getElem?_eq_getElem (by rw [flatQ_length]; exact hj)⟩
      obtain ⟨z, rfl⟩ := flatQ_mem (List.mem_of_getElem? hu)
      exact ⟨z, hc.trans hu⟩
    · obtain ⟨h0, h1, h2, h3⟩ := flatQ_get xs i hi
      exact ⟨(h.cellAt _ (by omega)).trans h0, (h.cellAt _ (by omega)).trans h1, (h.cellAt _ (by omega)).trans h2, (h.cellAt _ (by omega)).trans h3⟩
/-! A slice of fours that came in as an argument -/
section
variable {H : Type} {enc : TypeId × Value → H} {P : Program} {w : World} {sp : Nat → Bool} {held : Bool}
theorem open_quads {t e i : TypeId} {f0 f1 f2 f3 : Field} (ht : P.underlying t = some (.slice e)) (he : P.underlying e = some (.struct #[f0, f1, f2, f3])) (hi : P.underlying i = some (.int .i64)) (t0 : f0.type = i) (t1 : f1.type = i) (t2 : f2.type = i) (t3 : f3.type = i)
    (o0 : f0.offset = 0) (o1 : f1.offset = 1) (o2 : f2.offset = 2) (o3 : f3.offset = 3) (ci : P.cellsOf i = 1) (ce : P.cellsOf e = 4) {fuel : Nat} {v : Value} {x : DataW H × List MemPlace}
    (h : DataW.trod enc P w 0 sp held fuel t [v] = some x) :
    ∃ (a : Option Addr) (cap : Nat) (xs : List Q4), v = .slice a xs.length cap ∧ Quad w.heap.size w a xs ∧ (∀ x ∈ xs, I64 x.1 ∧ I64 x.2.1 ∧ I64 x.2.2.1 ∧ I64 x.2.2.2) ∧ (a = none → xs = [] ∧ cap = 0) ∧ xs.length ≤ cap ∧ cap ≤ maxLen := by
  rcases DataW.trod_slice ht h with ⟨e1, _⟩ | ⟨a, len, cap, elems, rest, n, _, e1, _, _, hl, hm, hlen, hel, _, _⟩
  · obtain rfl : v = .slice none 0 0 := by simpa using e1
    exact ⟨none, 0, [], rfl, (fun i h => by cases h), (fun x h => by cases h), (fun _ => ⟨rfl, rfl⟩), Nat.le_refl _, (by unfold maxLen; omega)⟩
  · obtain rfl : v = .slice (some a) len cap := by simpa using e1
    have one : ∀ i, i < len → ∃ p q r s, w.cell? (a.add (i * 4)) = some (.int .i64 p) ∧ w.cell? ((a.add (i * 4)).add 1) = some (.int .i64 q) ∧ w.cell? ((a.add (i * 4)).add 2) = some (.int .i64 r) ∧ w.cell? ((a.add (i * 4)).add 3) = some (.int .i64 s) ∧ I64 p ∧ I64 q ∧ I64 r ∧ I64 s := by
      intro j hj
      obtain ⟨y, hy⟩ : ∃ y, elems[j]? = some y := ⟨_, List.getElem?_eq_getElem (by omega)⟩
      have hb := hel j hj
      rw [hy, ce, Option.bind_eq_some_iff] at hb
      obtain ⟨cs, hc, htr⟩ := hb
      obtain ⟨p, q, r, s, rfl, ip, iq, ir, is⟩ := open_ints4 he hi t0 t1 t2 t3 o0 o1 o2 o3 ci ce htr
      obtain ⟨_, _, hcell⟩ := World.cells?_some hc
      exact ⟨p, q, r, s, by simpa [Addr.add] using hcell 0 (by omega), by simpa using hcell 1 (by omega), by simpa using hcell 2 (by omega), by simpa using hcell 3 (by omega), ip, iq, ir, is⟩
    refine ⟨some a, cap, (List.range len).map fun i => (intVal (w.cell? (a.add (i * 4))), intVal (w.cell? ((a.add (i * 4)).add 1)), intVal (w.cell? ((a.add (i * 4)).add 2)), intVal (w.cell? ((a.add (i * 4)).add 3))), by simp, ?_, ?_, (fun h => by cases h), (by simpa using hl), hm⟩
    · intro i hi
      have hi' : i < len := by simpa using hi
      obtain ⟨p, q, r, s, cp, cq, cr, cs, _⟩ := one i hi'
      have hspot : a.spot = none := by
        obtain ⟨_, _, _, _, c0', _⟩ := one 0 (by omega)
        simpa [Addr.add] using World.cell?_spot c0'
      obtain ⟨b, off, spot⟩ := a
      simp only at hspot
      subst hspot
      have e2 : ((⟨b, off, none⟩ : Addr).add (i * 4)) = ⟨b, off + i * 4, none⟩ := by unfold Addr.add; split <;> simp_all
      have e3 : ((⟨b, off + i * 4, none⟩ : Addr).add 1) = ⟨b, off + i * 4 + 1, none⟩ := by simp [Addr.add]
      have e4 : ((⟨b, off + i * 4, none⟩ : Addr).add 2) = ⟨b, off + i * 4 + 2, none⟩ := by simp [Addr.add]
      have e5 : ((⟨b, off + i * 4, none⟩ : Addr).add 3) = ⟨b, off + i * 4 + 3, none⟩ := by simp [Addr.add]
      rw [e2] at cp cq cr cs
      rw [e3] at cq
      rw [e4] at cr
      rw [e5] at cs
      refine ⟨b, off, rfl, World.block_lt_of_cell? w _ cp, ?_, ?_, ?_, ?_⟩
      · simp only [List.getElem_map, List.getElem_range, e2, cp, intVal]
      · simp only [List.getElem_map, List.getElem_range, e2, e3, cq, intVal]
      · simp only [List.getElem_map, List.getElem_range, e2, e4, cr, intVal]
      · simp only [List.getElem_map, List.getElem_range, e2, e5, cs, intVal]
    · intro x hx
      obtain ⟨i, hi, rfl⟩ := List.mem_map.1 hx
      obtain ⟨p, q, r, s, cp, cq, cr, cs, ip, iq, ir, is⟩ := one i (List.mem_range.1 hi)
      simp only [cp, cq, cr, cs, intVal]
      exact ⟨ip, iq, ir, is⟩
end
theorem retQ {f g : Bool} (h : f = g) : Ending.returned (.bool f) = .returned (.bool g) := by rw [h]
end Go.Proofs.Ytcepopboldnical
