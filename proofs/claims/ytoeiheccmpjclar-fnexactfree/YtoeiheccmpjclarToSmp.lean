/- The laws' copies of lists of samples: new memory that holds the same pairs. -/
import Derived.Test.YtoeiheccmpjclarPairs
import Derived.Test.YtoeiheccmpjclarRes
import Derived.OwnWalk
import Derived.LoopTactic
import Derived.Laws.OwnMore
namespace Go.Proofs.Ytoeiheccmpjclar
open Go.ChangeShapes Go.WideShapes Go.ChangeAt Go.RowKit
set_option maxRecDepth 100000
set_option linter.unusedVariables false

/-- Block g has room for n pairs; the first k are those of xs. -/
structure Fill (w : World) (g n : Nat) (xs : List (Int × Int)) (k : Nat) : Prop where
  any : ∀ j, j < n * 2 → (∃ z : Int, w.cell? ⟨g, j, none⟩ = some (.int .i64 z)) ∧ w.frozen? ⟨g, j, none⟩ = false
  got : ∀ i (h : i < xs.length), i < k → w.cell? ⟨g, i * 2, none⟩ = some (.int .i64 xs[i].1) ∧ w.cell? ⟨g, i * 2 + 1, none⟩ = some (.int .i64 xs[i].2)
theorem Fill.mono {w w' : World} {g n k : Nat} {xs : List (Int × Int)} (f : Fill w g n xs k) (h : Below w.heap.size w w') (hg : g < w.heap.size) : Fill w' g n xs k where
  any := fun j hj => by
    obtain ⟨⟨z, hz⟩, hf⟩ := f.any j hj
    exact ⟨⟨z, (h.cell (by exact hg)).trans hz⟩, (h.frozen (by exact hg)).trans hf⟩
  got := fun i hi hk => ⟨(h.cell (by exact hg)).trans (f.got i hi hk).1, (h.cell (by exact hg)).trans (f.got i hi hk).2⟩
theorem set_same {w : World} {a : Addr} {u : Value} (v : Value) (h : w.cell? a = some u) : (w.setCell a v).cell? a = some v := World.cell?_setCell_same' w a v (by rw [h]; rfl)
theorem set_other {w : World} {b i j : Nat} {v : Value} (h : i ≠ j) : (w.setCell ⟨b, i, none⟩ v).cell? ⟨b, j, none⟩ = w.cell? ⟨b, j, none⟩ := by
  apply World.cell?_setCell_other
  intro e
  injection e with _ e _
  exact h e
theorem Fill.put {w : World} {g n k : Nat} {xs : List (Int × Int)} (f : Fill w g n xs k) (hk : k < xs.length) (hn : xs.length ≤ n) :
    Fill ((w.setCell ⟨g, k * 2, none⟩ (.int .i64 xs[k].1)).setCell ⟨g, k * 2 + 1, none⟩ (.int .i64 xs[k].2)) g n xs (k + 1) where
  any := fun j hj => by
    obtain ⟨⟨z, hz⟩, hf⟩ := f.any j hj
    refine ⟨?_, by simpa using hf⟩
    by_cases h1 : j = k * 2 + 1
    · subst h1
      exact ⟨_, set_same _ ((set_other (by omega)).trans hz)⟩
    · by_cases h0 : j = k * 2
      · subst h0
        exact ⟨_, (set_other (by omega)).trans (set_same _ hz)⟩
      · exact ⟨z, (set_other (by omega)).trans ((set_other (by omega)).trans hz)⟩
  got := fun i hi hik => by
    obtain ⟨⟨z0, hz0⟩, _⟩ := f.any (k * 2) (by omega)
    obtain ⟨⟨z1, hz1⟩, _⟩ := f.any (k * 2 + 1) (by omega)
    by_cases h : i = k
    · subst h
      exact ⟨(set_other (by omega)).trans (set_same _ hz0), set_same _ ((set_other (by omega)).trans hz1)⟩
    · obtain ⟨c0, c1⟩ := f.got i hi (by omega)
      exact ⟨(set_other (by omega)).trans ((set_other (by omega)).trans c0), (set_other (by omega)).trans ((set_other (by omega)).trans c1)⟩
theorem Smp.at {B : Nat} {w : World} {a : Option Addr} {xs : List (Int × Int)} (h : Smp B w a xs) {w' : World} (hb : Below B w w') (k : Nat) (hk : k < xs.length) :
    ∃ b off, a = some ⟨b, off, none⟩ ∧ b < B ∧ w'.cell? ⟨b, off + k * 2, none⟩ = some (.int .i64 xs[k].1) ∧ w'.cell? ⟨b, off + k * 2 + 1, none⟩ = some (.int .i64 xs[k].2) := by
  obtain ⟨b, off, e, hlt, c0, c1⟩ := h k hk
  exact ⟨b, off, e, hlt, (hb.cell (by exact hlt)).trans c0, (hb.cell (by exact hlt)).trans c1⟩
theorem made_pair (n j : Nat) (h : j < n * 2) : (madeCells (Value.agg #[.int .i64 0, .int .i64 0]).cells (n * 2)).toList[j]? = some (.int .i64 0) := by
  have hz : ∀ i : Nat, (#[Value.int .i64 0, Value.int .i64 0] : Array Value)[i % 2]! = .int .i64 0 := by
    intro i
    have : i % 2 = 0 ∨ i % 2 = 1 := by omega
    rcases this with e | e <;> rw [e] <;> rfl
  rw [Array.getElem?_toList]
  unfold madeCells
  rw [Array.getElem?_map, Array.getElem?_eq_getElem (by simpa using h)]
  show some _ = _
  rw [show ((Array.range (n * 2))[j]'(by simpa using h)) = j by simp]
  exact congrArg some (hz j)
theorem Smp.cells {B b off : Nat} {w : World} {xs : List (Int × Int)} (h : Smp B w (some ⟨b, off, none⟩) xs) {w' : World} (hb : Below B w w') (k : Nat) (hk : k < xs.length) :
    w'.cell? ⟨b, off + k * 2, none⟩ = some (.int .i64 xs[k].1) ∧ w'.cell? ⟨b, off + k * 2 + 1, none⟩ = some (.int .i64 xs[k].2) := by
  obtain ⟨b', off', e, _, c⟩ := h.at hb k hk
  cases e
  exact c
theorem Fill.smp {w : World} {g n B : Nat} {xs : List (Int × Int)} (f : Fill w g n xs xs.length) (h : g < B) : Smp B w (some ⟨g, 0, none⟩) xs := fun i hi => by
  obtain ⟨c0, c1⟩ := f.got i hi hi
  exact ⟨g, 0, rfl, h, by rw [Nat.zero_add]; exact c0, by rw [Nat.zero_add]; exact c1⟩
theorem Smp.mono {B : Nat} {w w' : World} {a : Option Addr} {xs : List (Int × Int)} (h : Smp B w a xs) (hb : Below B w w') : Smp B w' a xs := fun i hi => h.at hb i hi
theorem Smp.up {B B' : Nat} {w : World} {a : Option Addr} {xs : List (Int × Int)} (h : Smp B w a xs) (hb : B ≤ B') : Smp B' w a xs := fun i hi => by
  obtain ⟨b, off, e, hl, c⟩ := h i hi
  exact ⟨b, off, e, Nat.lt_of_lt_of_le hl hb, c⟩
theorem below_cells {w w' : World} (h : Below w.heap.size w w') : ∀ b o : Nat, b < w.heap.size → w'.cell? ⟨b, o, none⟩ = w.cell? ⟨b, o, none⟩ := fun b o hb => h.cell (by exact hb)
theorem below_frozens {w w' : World} (h : Below w.heap.size w w') : ∀ b o : Nat, b < w.heap.size → w'.frozen? ⟨b, o, none⟩ = w.frozen? ⟨b, o, none⟩ := fun b o hb => h.frozen (by exact hb)
theorem set_far {w : World} {p q : Addr} {v : Value} (h : p.block ≠ q.block) : (w.setCell p v).cell? q = w.cell? q := World.cell?_setCell_other _ _ _ _ (fun e => h (by rw [e]))
theorem Fill.far {w : World} {g n k : Nat} {xs : List (Int × Int)} (f : Fill w g n xs k) {p : Addr} (v : Value) (h : p.block ≠ g) : Fill (w.setCell p v) g n xs k where
  any := fun j hj => ⟨by obtain ⟨z, hz⟩ := (f.any j hj).1; exact ⟨z, (set_far (by exact h)).trans hz⟩, by simpa using (f.any j hj).2⟩
  got := fun i hi hk => ⟨(set_far (by exact h)).trans (f.got i hi hk).1, (set_far (by exact h)).trans (f.got i hi hk).2⟩
theorem Smp.here {w x : World} {a : Option Addr} {xs : List (Int × Int)} (h : Smp w.heap.size w a xs) (hb : Below w.heap.size w x) : Smp x.heap.size x a xs := (h.mono hb).up hb.size
theorem below_step {w x y : World} (h : Below w.heap.size w x) (k : Below x.heap.size x y) : Below w.heap.size w y := h.trans (k.mono h.size)
theorem below_next {w x y z : World} (hx : Below w.heap.size w x) (h : Below x.heap.size x y) (k : Below y.heap.size y z) : Below w.heap.size w z := below_step (below_step hx h) k
end Go.Proofs.Ytoeiheccmpjclar
