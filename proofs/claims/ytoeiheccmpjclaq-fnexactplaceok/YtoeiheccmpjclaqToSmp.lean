/- The laws' copies of lists of samples: new memory that holds the same pairs. -/
import Derived.Test.YtoeiheccmpjclaqPairs
import Derived.Test.YtoeiheccmpjclaqRes
import Derived.OwnWalk
import Derived.LoopTactic
import Derived.Laws.OwnMore
namespace Go.Proofs.Ytoeiheccmpjclaq
open Go.ChangeShapes Go.WideShapes Go.ChangeAt Go.RowKit
set_option maxRecDepth 100000
set_option linter.unusedVariables false

theorem toSample_any (p q : Int) (w : World) :
    Calls Try.prog 88 #[.agg #[.int .i64 p, .int .i64 q]] w fun e w' => e = .returned (.agg #[.int .i64 p, .int .i64 q]) ∧ Below w.heap.size w w' := by
  go_enter Try.func88, Try.ntmps88
  go_wp2
  refine bodyPost_ret (results_one rfl _ _ _ [.int .i64 p, .int .i64 q] rfl (cells_two (by go_simp) (by go_simp)) Try.underlying65 rfl (by kernel_rfl)) rfl ?_
  exact ⟨rfl, by go_grown⟩
/-- Block g has room for n pairs; the first k are those of xs. -/
structure Fill (w : World) (g n : Nat) (xs : List (Int × Int)) (k : Nat) : Prop where
  any : ∀ j, j < n * 2 → (∃ z : Int, w.cell? ⟨g, j, none⟩ = some (.int .i64 z)) ∧ w.frozen? ⟨g, j, none⟩ = false
  got : ∀ i (h : i < xs.length), i < k → w.cell? ⟨g, i * 2, none⟩ = some (.int .i64 xs[i].1) ∧ w.cell? ⟨g, i * 2 + 1, none⟩ = some (.int .i64 xs[i].2)
theorem Fill.mono {w w' : World} {g n k : Nat} {xs : List (Int × Int)} (f : Fill w g n xs k) (h : Below w.heap.size w w') (hg : g < w.heap.size) : Fill w' g n xs k where
  any := fun j hj => by
    obtain ⟨⟨z, hz⟩, hf⟩ := f.any j hj
    exact ⟨⟨z, (h.cell (by exact hg)).trans hz⟩, (h.frozen (by exact hg)).trans hf⟩
  got := fun i hi hk => ⟨(h.cell (by exact hg)).trans (f.got i hi hk).1, (h.cell (by exact hg)).trans (f.got i hi hk).2⟩
theorem set_same {w : World} {a : Addr} {u : Value} (v : Value) (h : w.cell? a = some u) : (w.setCell a v).cell? a = some v := World.cell?_setCell_same' w a v (by rw [h]; rfl)
theorem set_other {w : World} {b i j : Nat} {v : Value} (h : i ≠ j) : (w.setCell ⟨b, i, none⟩ v).cell? ⟨b, j, none⟩ = w.cell? ⟨b, j, none⟩ := by
  apply World.cell?_setCell_other
  intro e
  injection e with _ e _
  exact h e
theorem Fill.put {w : World} {g n k : Nat} {xs : List (Int × Int)} (f : Fill w g n xs k) (hk : k < xs.length) (hn : xs.length ≤ n) :
    Fill ((w.setCell ⟨g, k * 2, none⟩ (.int .i64 xs[k].1)).setCell ⟨g, k * 2 + 1, none⟩ (.int .i64 xs[k].2)) g n xs (k + 1) where
  any := fun j hj => by
    obtain ⟨⟨z, hz⟩, hf⟩ := f.any j hj
    refine ⟨?_, by simpa using hf⟩
    by_cases h1 : j = k * 2 + 1
    · subst h1
      exact ⟨_, set_same _ ((set_other (by omega)).trans hz)⟩
    · by_cases h0 : j = k * 2
      · subst h0
        exact ⟨_, (set_other (by omega)).trans (set_same _ hz)⟩
      · exact ⟨z, (set_other (by omega)).trans ((set_other (by omega)).trans hz)⟩
  got := fun i hi hik => by
    obtain ⟨⟨z0, hz0⟩, _⟩ := f.any (k * 2) (by omega)
    obtain ⟨⟨z1, hz1⟩, _⟩ := f.any (k * 2 + 1) (by omega)
    by_cases h : i = k
    · subst h
      exact ⟨(set_other (by omega)).trans (set_same _ hz0), set_same _ ((set_other (by omega)).trans hz1)⟩
    · obtain ⟨c0, c1⟩ := f.got i hi (by omega)
      exact ⟨(set_other (by omega)).trans ((set_other (by omega)).trans c0), (set_other (by omega)).trans ((set_other (by omega)).trans c1)⟩
theorem Smp.at {B : Nat} {w : World} {a : Option Addr} {xs : List (Int × Int)} (h : Smp B w a xs) {w' : World} (hb : Below B w w') (k : Nat) (hk : k < xs.length) :
    ∃ b off, a = some ⟨b, off, none⟩ ∧ b < B ∧ w'.cell? ⟨b, off + k * 2, none⟩ = some (.int .i64 xs[k].1) ∧ w'.cell? ⟨b, off + k * 2 + 1, none⟩ = some (.int .i64 xs[k].2) := by
  obtain ⟨b, off, e, hlt, c0, c1⟩ := h k hk
  exact ⟨b, off, e, hlt, (hb.cell (by exact hlt)).trans c0, (hb.cell (by exact hlt)).trans c1⟩
theorem info_smp : (Try.prog.info? 65).map (fun i => (i.zero, i.size, i.bytes)) = some (some (.agg #[.int .i64 0, .int .i64 0]), 2, 16) := by kernel_rfl
theorem made_pair (n j : Nat) (h : j < n * 2) : (madeCells (Value.agg #[.int .i64 0, .int .i64 0]).cells (n * 2)).toList[j]? = some (.int .i64 0) := by
  have hz : ∀ i : Nat, (#[Value.int .i64 0, Value.int .i64 0] : Array Value)[i % 2]! = .int .i64 0 := by
    intro i
    have : i % 2 = 0 ∨ i % 2 = 1 := by omega
    rcases this with e | e <;> rw [e] <;> rfl
  rw [Array.getElem?_toList]
  unfold madeCells
  rw [Array.getElem?_map, Array.getElem?_eq_getElem (by simpa using h)]
  show some _ = _
  rw [show ((Array.range (n * 2))[j]'(by simpa using h)) = j by simp]
  exact congrArg some (hz j)
theorem toSampleS_any {w : World} {a : Option Addr} (cap : Nat) {xs : List (Int × Int)} (h : Smp w.heap.size w a xs) (hn : xs.length ≤ 1048576) :
    Calls Try.prog 65 #[.slice a xs.length cap] w fun e w' => ∃ g, e = .returned (.slice (some ⟨g, 0, none⟩) xs.length xs.length) ∧ w.heap.size ≤ g ∧ g < w'.heap.size ∧ Fill w' g xs.length xs xs.length ∧ Below w.heap.size w w' := by
  obtain ⟨i0, hi, hz0, hz1, hz2⟩ := info_parts info_smp
  go_enter Try.func65, Try.ntmps65
  go_wp2_with (first
    | (at_make; refine wpList_make_full _ rfl _ _ 22 rfl w.heap.size 65 i0 _ 2 Try.underlying22 hi hz0 hz1 _ _ _ _ xs.length rfl rfl rfl rfl (by rw [hz2]; omega) (by unfold maxLen; omega) (Nat.le_refl _) ?_; intro w1 own1 gr1))
  have hb1 : Below w.heap.size w w1 := (Below.refl _ _).grown gr1 (Nat.le_refl _) (fun k hk => by cases hk)
  have hg1 : w.heap.size < w1.heap.size := (own1.lt _ rfl).2
  have f1 : Fill w1 w.heap.size xs.length xs 0 := ⟨fun j hj => ⟨⟨0, by
    have hc := own1.cellAt j hj
    rw [hc]
    exact made_pair _ j hj⟩, own1.frozenAt j⟩, fun i hi hk => by omega⟩
  go_loopw [4] (fun i wr => ∃ k : Nat, i = .int .i64 k ∧ k ≤ xs.length ∧ Fill wr w.heap.size xs.length xs k ∧ w.heap.size < wr.heap.size ∧ Below w.heap.size w wr) (fun i _ => xs.length - (intOf i).toNat)
  case atStart => exact ⟨0, rfl, by omega, f1, hg1, hb1⟩
  case round =>
    obtain ⟨k, rfl, hk, f, hg, hb⟩ := hrel
    by_cases hlt : k < xs.length
    · obtain ⟨b, off, rfl, hbl, c0, c1⟩ := h.at hb k hlt
      have hlt' : (k : Int) < (xs.length : Int) := by omega
      generalize hp : xs[k].1 = p at c0
      generalize hq : xs[k].2 = q at c1
      go_wp2_with (first
        | (go_at_call 88; refine (toSample_any _ _ _).mono ?_; rintro e w2 ⟨rfl, hb2⟩; have f2 := f.mono hb2 hg; obtain ⟨⟨z0, e0⟩, u0⟩ := f2.any (k * 2) (by omega); obtain ⟨⟨z1, e1⟩, u1⟩ := f2.any (k * 2 + 1) (by omega)))
      subst hp
      subst hq
      have hB := hb.size
      exact ⟨⟨k + 1, by go_num, by omega, f2.put hlt (Nat.le_refl _), by have := hb2.size; simp; omega, ((hb.trans (hb2.mono hB)).setCell (by exact Nat.le_refl _) _).setCell (by exact Nat.le_refl _) _⟩, by simp [intOf]; omega⟩
    · have e : k = xs.length := by omega
      subst e
      go_wp2
      go_ret
      exact ⟨_, rfl, Nat.le_refl _, hg, f, hb⟩
theorem Smp.cells {B b off : Nat} {w : World} {xs : List (Int × Int)} (h : Smp B w (some ⟨b, off, none⟩) xs) {w' : World} (hb : Below B w w') (k : Nat) (hk : k < xs.length) :
    w'.cell? ⟨b, off + k * 2, none⟩ = some (.int .i64 xs[k].1) ∧ w'.cell? ⟨b, off + k * 2 + 1, none⟩ = some (.int .i64 xs[k].2) := by
  obtain ⟨b', off', e, _, c⟩ := h.at hb k hk
  cases e
  exact c
theorem Fill.smp {w : World} {g n B : Nat} {xs : List (Int × Int)} (f : Fill w g n xs xs.length) (h : g < B) : Smp B w (some ⟨g, 0, none⟩) xs := fun i hi => by
  obtain ⟨c0, c1⟩ := f.got i hi hi
  exact ⟨g, 0, rfl, h, by rw [Nat.zero_add]; exact c0, by rw [Nat.zero_add]; exact c1⟩
theorem Smp.mono {B : Nat} {w w' : World} {a : Option Addr} {xs : List (Int × Int)} (h : Smp B w a xs) (hb : Below B w w') : Smp B w' a xs := fun i hi => h.at hb i hi
theorem Smp.up {B B' : Nat} {w : World} {a : Option Addr} {xs : List (Int × Int)} (h : Smp B w a xs) (hb : B ≤ B') : Smp B' w a xs := fun i hi => by
  obtain ⟨b, off, e, hl, c⟩ := h i hi
  exact ⟨b, off, e, Nat.lt_of_lt_of_le hl hb, c⟩
theorem below_cells {w w' : World} (h : Below w.heap.size w w') : ∀ b o : Nat, b < w.heap.size → w'.cell? ⟨b, o, none⟩ = w.cell? ⟨b, o, none⟩ := fun b o hb => h.cell (by exact hb)
theorem below_frozens {w w' : World} (h : Below w.heap.size w w') : ∀ b o : Nat, b < w.heap.size → w'.frozen? ⟨b, o, none⟩ = w.frozen? ⟨b, o, none⟩ := fun b o hb => h.frozen (by exact hb)
theorem set_far {w : World} {p q : Addr} {v : Value} (h : p.block ≠ q.block) : (w.setCell p v).cell? q = w.cell? q := World.cell?_setCell_other _ _ _ _ (fun e => h (by rw [e]))
theorem Fill.far {w : World} {g n k : Nat} {xs : List (Int × Int)} (f : Fill w g n xs k) {p : Addr} (v : Value) (h : p.block ≠ g) : Fill (w.setCell p v) g n xs k where
  any := fun j hj => ⟨by obtain ⟨z, hz⟩ := (f.any j hj).1; exact ⟨z, (set_far (by exact h)).trans hz⟩, by simpa using (f.any j hj).2⟩
  got := fun i hi hk => ⟨(set_far (by exact h)).trans (f.got i hi hk).1, (set_far (by exact h)).trans (f.got i hi hk).2⟩
theorem Smp.here {w x : World} {a : Option Addr} {xs : List (Int × Int)} (h : Smp w.heap.size w a xs) (hb : Below w.heap.size w x) : Smp x.heap.size x a xs := (h.mono hb).up hb.size
theorem below_step {w x y : World} (h : Below w.heap.size w x) (k : Below x.heap.size x y) : Below w.heap.size w y := h.trans (k.mono h.size)
theorem below_next {w x y z : World} (hx : Below w.heap.size w x) (h : Below x.heap.size x y) (k : Below y.heap.size y z) : Below w.heap.size w z := below_step (below_step hx h) k
theorem toFilter_any {w : World} {a : Option Addr} (cap : Nat) {xs : List (Int × Int)} (h : Smp w.heap.size w a xs) (hn : xs.length ≤ 1048576) :
    Calls Try.prog 36 #[.agg #[.slice a xs.length cap]] w fun e w' => ∃ g, e = .returned (.agg #[.slice (some ⟨g, 0, none⟩) xs.length xs.length]) ∧ w.heap.size ≤ g ∧ g < w'.heap.size ∧ Fill w' g xs.length xs xs.length ∧ Below w.heap.size w w' := by
  go_enter Try.func36, Try.ntmps36
  go_wp2_with (first
    | (go_at_call 65; refine (toSampleS_any cap ((h.mono (by go_grown)).up (by simp; omega)) hn).mono ?_; rintro e w2 ⟨g, rfl, hg0, hg1, f, hb2⟩; have kc := below_cells hb2; have kf := below_frozens hb2))
  simp only [World.size_alloc] at hg0
  refine bodyPost_ret (results_one rfl _ _ _ [.slice (some ⟨g, 0, none⟩) xs.length xs.length] rfl (cells_one (set_same (u := .slice none 0 0) _ ?_)) Try.underlying24 rfl (by kernel_rfl)) rfl ?_
  · rw [set_far (by simp), kc _ _ (by simp)]; go_simp
  · refine ⟨g, rfl, by omega, by simpa using hg1, (f.far _ (by simp; omega)).far _ (by simp; omega), ?_⟩
    exact (((by go_grown : Below w.heap.size w _).trans (hb2.mono (by simp; omega))).setCell (by simp; omega) _).setCell (by simp) _
end Go.Proofs.Ytoeiheccmpjclaq
