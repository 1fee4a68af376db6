/- Lemmas on the way, of several texts: Cur, Draw, New, Smp, Pairs, ToSmp, Cells, OwnV, Ints, MarkSmp, Kept, Wok, IntOwn, ImplIn, OwnW. -/
import Derived.Test.YtkohlmloobojfaaGreatRows
import Derived.WalkKit
import Derived.ProofKit
import Derived.OpenShut
import Derived.Deep.QuietTactic
import Derived.BigQuiet
import Derived.Outline
import Derived.LoopN
import Derived.Handy
import Derived.WalkSmall
import Derived.Test.YtkohlmloobojfaaGreatGrpAA
import Derived.OwnWalk
import Derived.LoopTactic
import Derived.Laws.OwnMore
import Derived.Laws.AppendOwn
namespace Go.Proofs.YtkohlmloobojfaaGreat
open Go.ChangeShapes Go.WideShapes Go.ChangeAt Go.RowKit
set_option maxRecDepth 100000
set_option linter.unusedVariables false
/-- Of all old blocks at most block b has turned. -/
structure Only (b : Nat) (w w' : World) : Prop where
  os : w'.os = w.os
  tape : w'.tape = w.tape
  output : w'.output = w.output
  size : w.heap.size ≤ w'.heap.size
  block : ∀ k, k < w.heap.size → k ≠ b → w'.heap[k]? = w.heap[k]?

theorem Only.refl (b : Nat) (w : World) : Only b w w := ⟨rfl, rfl, rfl, Nat.le_refl _, fun _ _ _ => rfl⟩
theorem Only.trans {b : Nat} {u v w : World} (h : Only b u v) (k : Only b v w) : Only b u w :=
  ⟨k.os.trans h.os, k.tape.trans h.tape, k.output.trans h.output, Nat.le_trans h.size k.size, fun i hi hb => (k.block i (Nat.lt_of_lt_of_le hi h.size) hb).trans (h.block i hi hb)⟩
theorem Only.of_below {b : Nat} {w w' : World} (h : Below w.heap.size w w') : Only b w w' := ⟨h.os, h.tape, h.output, h.size, fun k hk _ => h.block k hk⟩
theorem Only.below {b B : Nat} {w w' : World} (h : Only b w w') (hb : B ≤ b) (hB : B ≤ w.heap.size) : Below B w w' :=
  ⟨h.os, h.tape, h.output, h.size, fun k hk => h.block k (by omega) (by omega)⟩
theorem Only.drewN {b : Nat} {w w' : World} (h : Only b w w') (n : Nat) : Only b w (w'.drewN n) := ⟨h.os, h.tape, h.output, h.size, h.block⟩
theorem Only.setCell {b : Nat} {w w' : World} (h : Only b w w') {p : Addr} (hp : p.block = b) (u : Value) : Only b w (w'.setCell p u) := by
  have hs : w'.heap.size = (w'.setCell p u).heap.size := by simp
  have k := (Below.refl b w').setCell (p := p) (by omega) u
  refine ⟨k.os.trans h.os, k.tape.trans h.tape, k.output.trans h.output, by rw [← hs]; exact h.size, fun i hi hb => ?_⟩
  rw [Below.heap_setCell _ _ _ _ (by omega)]; exact h.block i hi hb
theorem Only.cell {b : Nat} {w w' : World} (h : Only b w w') {p : Addr} (hp : p.block < w.heap.size) (hb : p.block ≠ b) : w'.cell? p = w.cell? p := World.cell?_of_block (w := w) (h.block p.block hp hb)
theorem Only.frozen {b : Nat} {w w' : World} (h : Only b w w') {p : Addr} (hp : p.block < w.heap.size) (hb : p.block ≠ b) : w'.frozen? p = w.frozen? p := World.frozen?_of_block (w := w) (h.block p.block hp hb)
theorem new_below (w : World) (o : Obj) : Below w.heap.size w (w.alloc o) := (Below.refl _ _).alloc (Nat.le_refl _) _
theorem Only.alloc {b : Nat} {w0 w : World} (h : Only b w0 w) (o : Obj) : Only b w0 (w.alloc o) := h.trans (Only.of_below (new_below w o))
/-- A number of 64 bits. -/
def I64 (x : Int) : Prop := -9223372036854775808 ≤ x ∧ x ≤ 9223372036854775807
/-- The pairs xs lie at a, below block B. -/
def Smp (B : Nat) (w : World) (a : Option Addr) (xs : List (Int × Int)) : Prop :=
  ∀ i (h : i < xs.length), ∃ b off, a = some ⟨b, off, none⟩ ∧ b < B ∧ w.cell? ⟨b, off + i * 2, none⟩ = some (.int .i64 xs[i].1) ∧ w.cell? ⟨b, off + i * 2 + 1, none⟩ = some (.int .i64 xs[i].2)
theorem Smp.first {B : Nat} {w : World} {a : Option Addr} {x : Int × Int} {xs : List (Int × Int)} (h : Smp B w a (x :: xs)) (hB : B ≤ w.heap.size) :
    ∃ b off, a = some ⟨b, off, none⟩ ∧ b < w.heap.size ∧ w.cell? ⟨b, off, none⟩ = some (.int .i64 x.1) ∧ w.cell? ⟨b, off + 1, none⟩ = some (.int .i64 x.2) := by
  obtain ⟨b, off, rfl, hb, c0, c1⟩ := h 0 (by simp)
  exact ⟨b, off, rfl, by omega, by simpa using c0, by simpa using c1⟩
/-- How long ago the first one was. -/
def timeB (x : Int) : Bool := decide (0 ≤ x) && decide (x ≤ 1000000000000000)
def rateB (x : Int) : Bool := decide (0 ≤ x) && decide (x ≤ 1000000000000)
theorem in_any (lo x hi : Int) (w : World) : Calls Tryz.prog 25 #[.int .i64 x, .int .i64 lo, .int .i64 hi] w fun e w' => e = .returned (.bool (decide (lo ≤ x) && decide (x ≤ hi))) ∧ w' = w := by
  by_cases h1 : lo ≤ x
  · by_cases h2 : x ≤ hi
    · rw [decide_eq_true h1, decide_eq_true h2]
      go_enter Tryz.func25, Tryz.ntmps25
      go_wp2
      go_ret
      exact ⟨rfl, rfl⟩
    · have h2' : decide (x ≤ hi) = false := decide_eq_false h2
      rw [decide_eq_true h1, h2']
      go_enter Tryz.func25, Tryz.ntmps25
      go_wp2
      go_ret
      exact ⟨rfl, rfl⟩
  · have h1' : decide (lo ≤ x) = false := decide_eq_false h1
    rw [h1']
    go_enter Tryz.func25, Tryz.ntmps25
    go_wp2
    go_ret
    exact ⟨rfl, rfl⟩
theorem time_any (x : Int) (w : World) : Calls Tryz.prog 66 #[.int .i64 x] w fun e w' => e = .returned (.bool (timeB x)) ∧ w' = w := by
  go_enter Tryz.func66, Tryz.ntmps66
  go_wp2_with (first | (go_at_call 25; refine (in_any _ _ _ _).mono ?_; rintro e w2 ⟨rfl, rfl⟩))
  go_ret
  exact ⟨rfl, rfl⟩
theorem rate_any (x : Int) (w : World) : Calls Tryz.prog 163 #[.int .i64 x] w fun e w' => e = .returned (.bool (rateB x)) ∧ w' = w := by
  go_enter Tryz.func163, Tryz.ntmps163
  go_wp2_with (first | (go_at_call 25; refine (in_any _ _ _ _).mono ?_; rintro e w2 ⟨rfl, rfl⟩))
  go_ret
  exact ⟨rfl, rfl⟩
section
variable {H : Type} {enc : TypeId × Value → H} {P : Program} {w : World} {sp : Nat → Bool} {held : Bool}

def intVal (v : Option Value) : Int := match v with | some (.int _ n) => n | _ => 0
end
/-- Block g has room for n pairs; the first k are those of xs. -/
structure Fill (w : World) (g n : Nat) (xs : List (Int × Int)) (k : Nat) : Prop where
  any : ∀ j, j < n * 2 → (∃ z : Int, w.cell? ⟨g, j, none⟩ = some (.int .i64 z)) ∧ w.frozen? ⟨g, j, none⟩ = false
  got : ∀ i (h : i < xs.length), i < k → w.cell? ⟨g, i * 2, none⟩ = some (.int .i64 xs[i].1) ∧ w.cell? ⟨g, i * 2 + 1, none⟩ = some (.int .i64 xs[i].2)
theorem Fill.mono {w w' : World} {g n k : Nat} {xs : List (Int × Int)} (f : Fill w g n xs k) (h : Below w.heap.size w w') (hg : g < w.heap.size) : Fill w' g n xs k where
  any := fun j hj => by
    obtain ⟨⟨z, hz⟩, hf⟩ := f.any j hj
    exact ⟨⟨z, (h.cell (by exact hg)).trans hz⟩, (h.frozen (by exact hg)).trans hf⟩
  got := fun i hi hk => ⟨(h.cell (by exact hg)).trans (f.got i hi hk).1, (h.cell (by exact hg)).trans (f.got i hi hk).2⟩
theorem set_same {w : World} {a : Addr} {u : Value} (v : Value) (h : w.cell? a = some u) : (w.setCell a v).cell? a = some v := World.cell?_setCell_same' w a v (by rw [h]; rfl)
theorem set_other {w : World} {b i j : Nat} {v : Value} (h : i ≠ j) : (w.setCell ⟨b, i, none⟩ v).cell? ⟨b, j, none⟩ = w.cell? ⟨b, j, none⟩ := by
  apply World.cell?_setCell_other
  intro e
  injection e with _ e _
  exact h e
theorem Fill.put {w : World} {g n k : Nat} {xs : List (Int × Int)} (f : Fill w g n xs k) (hk : k < xs.length) (hn : xs.length ≤ n) :
    Fill ((w.setCell ⟨g, k * 2, none⟩ (.int .i64 xs[k].1)).setCell ⟨g, k * 2 + 1, none⟩ (.int .i64 xs[k].2)) g n xs (k + 1) where
  any := fun j hj => by
    obtain ⟨⟨z, hz⟩, hf⟩ := f.any j hj
    refine ⟨?_, by simpa using hf⟩
    by_cases h1 : j = k * 2 + 1
    · subst h1
      exact ⟨_, set_same _ ((set_other (by omega)).trans hz)⟩
    · by_cases h0 : j = k * 2
      · subst h0
        exact ⟨_, (set_other (by omega)).trans (set_same _ hz)⟩
      · exact ⟨z, (set_other (by omega)).trans ((set_other (by omega)).trans hz)⟩
  got := fun i hi hik => by
    obtain ⟨⟨z0, hz0⟩, _⟩ := f.any (k * 2) (by omega)
    obtain ⟨⟨z1, hz1⟩, _⟩ := f.any (k * 2 + 1) (by omega)
    by_cases h : i = k
    · subst h
      exact ⟨(set_other (by omega)).trans (set_same _ hz0), set_same _ ((set_other (by omega)).trans hz1)⟩
    · obtain ⟨c0, c1⟩ := f.got i hi (by omega)
      exact ⟨(set_other (by omega)).trans ((set_other (by omega)).trans c0), (set_other (by omega)).trans ((set_other (by omega)).trans c1)⟩
theorem Smp.at {B : Nat} {w : World} {a : Option Addr} {xs : List (Int × Int)} (h : Smp B w a xs) {w' : World} (hb : Below B w w') (k : Nat) (hk : k < xs.length) :
    ∃ b off, a = some ⟨b, off, none⟩ ∧ b < B ∧ w'.cell? ⟨b, off + k * 2, none⟩ = some (.int .i64 xs[k].1) ∧ w'.cell? ⟨b, off + k * 2 + 1, none⟩ = some (.int .i64 xs[k].2) := by
  obtain ⟨b, off, e, hlt, c0, c1⟩ := h k hk
  exact ⟨b, off, e, hlt, (hb.cell (by exact hlt)).trans c0, (hb.cell (by exact hlt)).trans c1⟩
theorem Smp.cells {B b off : Nat} {w : World} {xs : List (Int × Int)} (h : Smp B w (some ⟨b, off, none⟩) xs) {w' : World} (hb : Below B w w') (k : Nat) (hk : k < xs.length) :
    w'.cell? ⟨b, off + k * 2, none⟩ = some (.int .i64 xs[k].1) ∧ w'.cell? ⟨b, off + k * 2 + 1, none⟩ = some (.int .i64 xs[k].2) := by
  obtain ⟨b', off', e, _, c⟩ := h.at hb k hk
  cases e
  exact c
theorem Fill.smp {w : World} {g n B : Nat} {xs : List (Int × Int)} (f : Fill w g n xs xs.length) (h : g < B) : Smp B w (some ⟨g, 0, none⟩) xs := fun i hi => by
  obtain ⟨c0, c1⟩ := f.got i hi hi
  exact ⟨g, 0, rfl, h, by rw [Nat.zero_add]; exact c0, by rw [Nat.zero_add]; exact c1⟩
theorem Smp.mono {B : Nat} {w w' : World} {a : Option Addr} {xs : List (Int × Int)} (h : Smp B w a xs) (hb : Below B w w') : Smp B w' a xs := fun i hi => h.at hb i hi
theorem Smp.up {B B' : Nat} {w : World} {a : Option Addr} {xs : List (Int × Int)} (h : Smp B w a xs) (hb : B ≤ B') : Smp B' w a xs := fun i hi => by
  obtain ⟨b, off, e, hl, c⟩ := h i hi
  exact ⟨b, off, e, Nat.lt_of_lt_of_le hl hb, c⟩
theorem below_cells {w w' : World} (h : Below w.heap.size w w') : ∀ b o : Nat, b < w.heap.size → w'.cell? ⟨b, o, none⟩ = w.cell? ⟨b, o, none⟩ := fun b o hb => h.cell (by exact hb)
theorem below_frozens {w w' : World} (h : Below w.heap.size w w') : ∀ b o : Nat, b < w.heap.size → w'.frozen? ⟨b, o, none⟩ = w.frozen? ⟨b, o, none⟩ := fun b o hb => h.frozen (by exact hb)
theorem set_far {w : World} {p q : Addr} {v : Value} (h : p.block ≠ q.block) : (w.setCell p v).cell? q = w.cell? q := World.cell?_setCell_other _ _ _ _ (fun e => h (by rw [e]))
theorem Fill.far {w : World} {g n k : Nat} {xs : List (Int × Int)} (f : Fill w g n xs k) {p : Addr} (v : Value) (h : p.block ≠ g) : Fill (w.setCell p v) g n xs k where
  any := fun j hj => ⟨by obtain ⟨z, hz⟩ := (f.any j hj).1; exact ⟨z, (set_far (by exact h)).trans hz⟩, by simpa using (f.any j hj).2⟩
  got := fun i hi hk => ⟨(set_far (by exact h)).trans (f.got i hi hk).1, (set_far (by exact h)).trans (f.got i hi hk).2⟩
theorem Smp.here {w x : World} {a : Option Addr} {xs : List (Int × Int)} (h : Smp w.heap.size w a xs) (hb : Below w.heap.size w x) : Smp x.heap.size x a xs := (h.mono hb).up hb.size
theorem below_step {w x y : World} (h : Below w.heap.size w x) (k : Below x.heap.size x y) : Below w.heap.size w y := h.trans (k.mono h.size)
def Cells (w : World) : List (Nat × Nat × Value) → Prop
  | [] => True
  | (b, o, v) :: r => (b < w.heap.size ∧ w.cell? ⟨b, o, none⟩ = some v) ∧ Cells w r
theorem Cells.next {w w' : World} (hb : Below w.heap.size w w') : ∀ {cs : List (Nat × Nat × Value)}, Cells w cs → Cells w' cs
  | [], _ => trivial
  | (b, o, v) :: r, ⟨⟨h1, h2⟩, h⟩ => ⟨⟨Nat.lt_of_lt_of_le h1 hb.size, (below_cells hb _ _ h1).trans h2⟩, Cells.next hb h⟩
theorem Cells.only {w w' : World} {g : Nat} (ho : Only g w w') : ∀ {cs : List (Nat × Nat × Value)}, (∀ c ∈ cs, c.1 ≠ g) → Cells w cs → Cells w' cs
  | [], _, _ => trivial
  | (b, o, v) :: r, hg, ⟨⟨h1, h2⟩, h⟩ => ⟨⟨Nat.lt_of_lt_of_le h1 ho.size, (ho.cell h1 (hg (b, o, v) (List.mem_cons_self ..))).trans h2⟩, Cells.only ho (fun c hc => hg c (List.mem_cons_of_mem _ hc)) h⟩
/-- Of all old blocks at most the one that is named has turned. -/
structure OnlyO (o : Option Nat) (w w' : World) : Prop where
  os : w'.os = w.os
  tape : w'.tape = w.tape
  output : w'.output = w.output
  size : w.heap.size ≤ w'.heap.size
  block : ∀ k, k < w.heap.size → o ≠ some k → w'.heap[k]? = w.heap[k]?
theorem OnlyO.of_below {o : Option Nat} {w w' : World} (h : Below w.heap.size w w') : OnlyO o w w' := ⟨h.os, h.tape, h.output, h.size, fun k hk _ => h.block k hk⟩
theorem OnlyO.of_only {g : Nat} {w w' : World} (h : Only g w w') : OnlyO (some g) w w' := ⟨h.os, h.tape, h.output, h.size, fun k hk hn => h.block k hk (fun e => hn (by rw [e]))⟩
theorem OnlyO.below {o : Option Nat} {B : Nat} {w w' : World} (h : OnlyO o w w') (hb : ∀ g, o = some g → B ≤ g) (hB : B ≤ w.heap.size) : Below B w w' :=
  ⟨h.os, h.tape, h.output, h.size, fun k hk => h.block k (by omega) (fun e => by have := hb k e; omega)⟩
theorem OnlyO.trans {o : Option Nat} {w x y : World} (h : OnlyO o w x) (k : OnlyO o x y) : OnlyO o w y := ⟨k.os.trans h.os, k.tape.trans h.tape, k.output.trans h.output, Nat.le_trans h.size k.size, fun i hi hn => (k.block i (Nat.lt_of_lt_of_le hi h.size) hn).trans (h.block i hi hn)⟩
theorem OnlyO.cell {o : Option Nat} {w w' : World} (h : OnlyO o w w') {p : Addr} (hp : p.block < w.heap.size) (hb : o ≠ some p.block) : w'.cell? p = w.cell? p := World.cell?_of_block (w := w) (h.block p.block hp hb)
theorem OnlyO.frozen {o : Option Nat} {w w' : World} (h : OnlyO o w w') {p : Addr} (hp : p.block < w.heap.size) (hb : o ≠ some p.block) : w'.frozen? p = w.frozen? p := World.frozen?_of_block (w := w) (h.block p.block hp hb)
theorem Cells.onlyO {w w' : World} {o : Option Nat} (ho : OnlyO o w w') : ∀ {cs : List (Nat × Nat × Value)}, (∀ c ∈ cs, o ≠ some c.1) → Cells w cs → Cells w' cs
  | [], _, _ => trivial
  | (b, o', v) :: r, hg, ⟨⟨h1, h2⟩, h⟩ => ⟨⟨Nat.lt_of_lt_of_le h1 ho.size, (ho.cell h1 (hg (b, o', v) (List.mem_cons_self ..))).trans h2⟩, Cells.onlyO ho (fun c hc => hg c (List.mem_cons_of_mem _ hc)) h⟩
def flatI (xs : List Int) : List Value := xs.map fun x => .int .i64 x
theorem flatI_append (xs ys : List Int) : flatI (xs ++ ys) = flatI xs ++ flatI ys := List.map_append
theorem flatI_length (xs : List Int) : (flatI xs).length = xs.length := List.length_map ..
theorem flatI_one (xs : List Int) : ∀ u ∈ flatI xs, u.oneCell' = true := fun u hu => by
  obtain ⟨z, _, rfl⟩ := List.mem_map.1 hu
  rfl
/-- A block of n numbers, the first k of xs lie in it. -/
structure IFill (w : World) (g n : Nat) (xs : List Int) (k : Nat) : Prop where
  any : ∀ j, j < n → (∃ z : Int, w.cell? ⟨g, j, none⟩ = some (.int .i64 z)) ∧ w.frozen? ⟨g, j, none⟩ = false
  got : ∀ i (h : i < xs.length), i < k → w.cell? ⟨g, i, none⟩ = some (.int .i64 xs[i])
/-- v is a list of numbers: xs in a block of its own from lo on, or none. -/
def IV (w : World) (lo : Nat) (v : Value) (xs : List Int) : Prop :=
  (∃ g cap, v = .slice (some ⟨g, 0, none⟩) xs.length cap ∧ lo ≤ g ∧ g < w.heap.size ∧ IFill w g xs.length xs xs.length ∧ xs.length ≤ cap) ∨ (v = .slice none 0 0 ∧ xs = [])
theorem IV.own {w : World} {lo : Nat} {v : Value} {xs : List Int} (h : IV w lo v xs) {g : Nat} (hg : v.ownBlock = some g) : lo ≤ g ∧ g < w.heap.size := by
  rcases h with ⟨g', cap, rfl, h1, h2, _⟩ | ⟨rfl, _⟩
  · injection hg with hg
    have e : g' = g := hg
    subst e
    exact ⟨h1, h2⟩
  · cases hg
theorem IFill.mono {w w' : World} {g n k : Nat} {xs : List Int} (f : IFill w g n xs k) (hb : Below w.heap.size w w') (hg : g < w.heap.size) : IFill w' g n xs k where
  any := fun j hj => ⟨by obtain ⟨z, hz⟩ := (f.any j hj).1; exact ⟨z, (below_cells hb _ _ hg).trans hz⟩, (below_frozens hb _ _ hg).trans (f.any j hj).2⟩
  got := fun i hi hk => (below_cells hb _ _ hg).trans (f.got i hi hk)
theorem IV.next {w w' : World} {lo : Nat} {v : Value} {xs : List Int} (h : IV w lo v xs) (hb : Below w.heap.size w w') : IV w' lo v xs := by
  rcases h with ⟨g, cap, rfl, h1, h2, f, hc⟩ | h
  · exact .inl ⟨g, cap, rfl, h1, Nat.lt_of_lt_of_le h2 hb.size, f.mono hb h2, hc⟩
  · exact .inr h
theorem IV.onlyO {w w' : World} {lo : Nat} {o : Option Nat} {v : Value} {xs : List Int} (h : IV w lo v xs) (hb : OnlyO o w w') (hv : ∀ g, v.ownBlock = some g → o ≠ some g) : IV w' lo v xs := by
  rcases h with ⟨g, cap, rfl, h1, h2, f, hc⟩ | h
  · have hn := hv g rfl
    refine .inl ⟨g, cap, rfl, h1, Nat.lt_of_lt_of_le h2 hb.size, ⟨fun j hj => ?_, fun i hi hk => ?_⟩, hc⟩
    · obtain ⟨⟨z, hz⟩, hf⟩ := f.any j hj
      exact ⟨⟨z, (hb.cell (by exact h2) (by exact hn)).trans hz⟩, (hb.frozen (by exact h2) (by exact hn)).trans hf⟩
    · exact (hb.cell (by exact h2) (by exact hn)).trans (f.got i hi hk)
  · exact .inr h
theorem IV.lower {w : World} {lo lo' : Nat} {v : Value} {xs : List Int} (h : IV w lo v xs) (hl : lo' ≤ lo) : IV w lo' v xs := by
  rcases h with ⟨g, cap, rfl, h1, h2, f, hc⟩ | h
  · exact .inl ⟨g, cap, rfl, Nat.le_trans hl h1, h2, f, hc⟩
  · exact .inr h
theorem own_ints {w : World} {base : Nat} {v : Value} {xs : List Int} {t : TypeId} (h : w.ownsRow base t 1 v xs.length (flatI xs)) : IV w base v xs := by
  rcases h.2 with ⟨e, e2⟩ | ⟨g, cap, cur, rfl, hb, hg, hnc, _⟩
  · exact .inr ⟨e, List.eq_nil_of_length_eq_zero e2⟩
  · refine .inl ⟨g, cap, rfl, hb, (h.lt g rfl).2, ⟨fun j hj => ⟨?_, h.frozenAt j⟩, fun i hi _ => ?_⟩, hnc⟩
    · refine ⟨xs[j], (h.cellAt j (by omega)).trans ?_⟩
      unfold flatI
      rw [List.getElem?_map, List.getElem?_eq_getElem hj]
      rfl
    · refine (h.cellAt i (by omega)).trans ?_
      unfold flatI
      rw [List.getElem?_map, List.getElem?_eq_getElem hi]
      rfl
def marks (k : Int) (n : Nat) : List (Int × Int) := (List.range n).map fun (i : Nat) => (k + 2 * (i : Int), k + 2 * (i : Int) + 1)
theorem Fill.again {w : World} {g n k : Nat} {xs : List (Int × Int)} (f : Fill w g n xs k) (ys : List (Int × Int)) : Fill w g n ys 0 := ⟨f.any, fun i hi hk => by omega⟩
theorem ret_v {f g : Int} (h : f = g) : Value.int .i64 f = .int .i64 g := by rw [h]
theorem OnlyO.of_grown {row : Option Nat} {w w' : World} (h : w.grownBy w' row) : OnlyO row w w' := ⟨h.os, h.tape, h.output, h.size, fun k hk hn => h.block k hk (fun e => hn e.symm)⟩
structure Kept (w : World) (cs : List (Nat × Nat × Value)) (bs : List Nat) (wr : World) : Prop where
  cells : Cells wr cs
  free : ∀ b ∈ bs, b < wr.heap.size ∧ ∀ o : Nat, wr.frozen? ⟨b, o, none⟩ = false
  hb : Below w.heap.size w wr
theorem Kept.onlyO {w : World} {cs : List (Nat × Nat × Value)} {bs : List Nat} {wr w' : World} {row : Option Nat} (h : Kept w cs bs wr) (hg : OnlyO row wr w') (hr : ∀ j, row = some j → w.heap.size ≤ j) (h1 : ∀ c ∈ cs, row ≠ some c.1) (h2 : ∀ b ∈ bs, row ≠ some b) : Kept w cs bs w' :=
  ⟨Cells.onlyO hg h1 h.cells, fun b hb => ⟨Nat.lt_of_lt_of_le (h.free b hb).1 hg.size, fun o => (hg.frozen (by exact (h.free b hb).1) (h2 b hb)).trans ((h.free b hb).2 o)⟩, h.hb.trans (hg.below hr h.hb.size)⟩
theorem Kept.next {w : World} {cs : List (Nat × Nat × Value)} {bs : List Nat} {wr w' : World} (h : Kept w cs bs wr) (hg : Below wr.heap.size wr w') : Kept w cs bs w' := h.onlyO (row := none) (OnlyO.of_below hg) (fun j e => by cases e) (fun c _ e => by cases e) (fun b _ e => by cases e)
theorem Kept.drew {w : World} {cs : List (Nat × Nat × Value)} {bs : List Nat} {wr : World} (h : Kept w cs bs wr) : Kept w cs bs wr.drew := h.next (Below.refl _ _).drew
/-- One place is stored over. -/
def putIn (b o : Nat) (v : Value) : List (Nat × Nat × Value) → List (Nat × Nat × Value)
  | [] => []
  | (b', o', u) :: r => (b', o', if b' = b ∧ o' = o then v else u) :: putIn b o v r
theorem Cells.put {wr : World} (b o : Nat) (v : Value) : ∀ {cs : List (Nat × Nat × Value)}, Cells wr cs → Cells (wr.setCell ⟨b, o, none⟩ v) (putIn b o v cs)
  | [], _ => trivial
  | (b', o', u) :: r, ⟨⟨h1, h2⟩, h⟩ => by
    refine ⟨⟨by simpa using h1, ?_⟩, Cells.put b o v h⟩
    by_cases e : b' = b ∧ o' = o
    · rw [if_pos e]
      obtain ⟨rfl, rfl⟩ := e
      exact set_same _ h2
    · rw [if_neg e]
      exact (World.cell?_setCell_other _ _ _ _ (fun k => e (by injection k with k1 k2 _; exact ⟨k1.symm, k2.symm⟩))).trans h2
theorem Kept.put {w : World} {cs : List (Nat × Nat × Value)} {bs : List Nat} {wr : World} (h : Kept w cs bs wr) (b o : Nat) (v : Value) (hb : w.heap.size ≤ b) : Kept w (putIn b o v cs) bs (wr.setCell ⟨b, o, none⟩ v) :=
  ⟨h.cells.put b o v, fun b' hb' => ⟨by simpa using (h.free b' hb').1, fun o' => by simpa using (h.free b' hb').2 o'⟩, h.hb.setCell (by exact hb) _⟩
theorem Kept.to {w : World} {cs cs' : List (Nat × Nat × Value)} {bs : List Nat} {wr : World} (h : Kept w cs bs wr) (e : cs = cs') : Kept w cs' bs wr := e ▸ h
theorem Fill.onlyO {w w' : World} {g n k : Nat} {xs : List (Int × Int)} {o : Option Nat} (f : Fill w g n xs k) (ho : OnlyO o w w') (hg : g < w.heap.size) (hn : o ≠ some g) : Fill w' g n xs k where
  any := fun j hj => ⟨by obtain ⟨z, hz⟩ := (f.any j hj).1; exact ⟨z, (ho.cell (by exact hg) (by exact hn)).trans hz⟩, (ho.frozen (by exact hg) (by exact hn)).trans (f.any j hj).2⟩
  got := fun i hi hk => ⟨(ho.cell (by exact hg) (by exact hn)).trans (f.got i hi hk).1, (ho.cell (by exact hg) (by exact hn)).trans (f.got i hi hk).2⟩
theorem row_set {w : World} {b i : Nat} {v u : Value} {base : Nat} {e : TypeId} {s n : Nat} {xs : List Value} (h : w.ownsRow base e s u n xs) (hb : b < base) : (w.setCell ⟨b, i, none⟩ v).ownsRow base e s u n xs :=
  h.kept (row := some b) ⟨rfl, rfl, rfl, by simp, fun k _ hk => Below.heap_setCell _ _ _ _ (fun e => hk (by simp [e]))⟩ (Or.inr (fun e => by have := (h.lt _ e).1; omega))
theorem own_slice {w : World} {b : Nat} {e : TypeId} {s n : Nat} {v : Value} {xs : List Value} (h : w.ownsRow b e s v n xs) : ∃ a c, v = .slice a n c := by
  rcases h.2 with ⟨rfl, e⟩ | ⟨g1, cap, cur, rfl, _⟩
  · exact ⟨none, 0, by rw [e]⟩
  · exact ⟨_, _, rfl⟩
theorem row_next {w w' : World} {base : Nat} {e : TypeId} {s n : Nat} {u : Value} {xs : List Value} (h : w.ownsRow base e s u n xs) (hb : Below w.heap.size w w') : w'.ownsRow base e s u n xs :=
  h.kept (row := none) ⟨hb.os, hb.tape, hb.output, hb.size, fun k hk _ => hb.block k hk⟩ (by cases u.ownBlock with | none => exact .inl rfl | some g => exact .inr (fun e => by cases e))
theorem below_drews {B : Nat} {w w' : World} (h : Below B w w') (n : Nat) : Below B w (w'.drewN n) := ⟨h.os, h.tape, h.output, h.size, h.block⟩
theorem info_i64 : (Tryz.prog.info? 2).map (fun i => (i.zero, i.size, i.bytes)) = some (some (.int .i64 0), 1, 8) := by kernel_rfl
theorem own_none1 (w : World) (b g : Nat) (hg : g = w.heap.size) (hb : b ≤ w.heap.size) (t : TypeId) : (w.alloc (.cells #[] t)).ownsRow b t 1 (.slice (some ⟨g, 0, none⟩) 0 0) 0 [] := by
  subst hg
  exact ⟨rfl, .inr ⟨w.heap.size, 0, #[], rfl, hb, heap_alloc_new _ _, Nat.le_refl _, by unfold maxLen; omega, rfl, rfl⟩⟩
theorem one_news {w : World} {g : Nat} {u : Value} (h : w.cell? ⟨g, 0, none⟩ = some u) : ∀ j v, [u][j]? = some v → w.cell? ((⟨g, 0, none⟩ : Addr).add j) = some v := by
  intro j v hv
  match j, hv with
  | 0, hv => obtain rfl : u = v := by simpa using hv
             exact h
theorem rows_apart {w : World} {b b' : Nat} {e e' : TypeId} {s s' n n' : Nat} {v v' : Value} {xs xs' : List Value} (h : w.ownsRow b e s v n xs) (h' : w.ownsRow b' e' s' v' n' xs') (he : e ≠ e') : ∀ g, v.ownBlock = some g → v'.ownBlock ≠ some g := by
  intro g hg hg'
  rcases h.2 with ⟨rfl, _⟩ | ⟨g1, cap, cur, rfl, _, hc, _⟩
  · cases hg
  · rcases h'.2 with ⟨rfl, _⟩ | ⟨g2, cap', cur', rfl, _, hc', _⟩
    · cases hg'
    · have e1 : g1 = g := Option.some.inj hg
      have e2 : g2 = g := Option.some.inj hg'
      subst e1
      subst e2
      rw [hc] at hc'
      injection hc' with hc'
      injection hc' with _ k _
      exact he k
theorem rows_keep {w : World} {b b' : Nat} {e e' : TypeId} {s s' n n' : Nat} {v v' : Value} {xs xs' : List Value} (h : w.ownsRow b e s v n xs) (h' : w.ownsRow b' e' s' v' n' xs') (he : e ≠ e') : v.ownBlock = none ∨ v.ownBlock ≠ v'.ownBlock := by
  cases ho : v.ownBlock with
  | none => exact .inl rfl
  | some g => exact .inr (fun k => rows_apart h h' he g ho k.symm)
theorem grown_set (w : World) (b i : Nat) (v : Value) : w.grownBy (w.setCell ⟨b, i, none⟩ v) (some b) :=
  ⟨rfl, rfl, rfl, by simp, fun k _ hk => Below.heap_setCell _ _ _ _ (fun e => hk (by simp [e]))⟩
theorem iwithin_any (lo x hi : Int) (w : World) : Calls Tryz.prog 77 #[.int .i64 x, .int .i64 lo, .int .i64 hi] w fun e w' => e = .returned (.bool (decide (lo ≤ x) && decide (x ≤ hi))) ∧ w' = w := by
  by_cases h1 : lo ≤ x
  · by_cases h2 : x ≤ hi
    · rw [decide_eq_true h1, decide_eq_true h2]
      go_enter Tryz.func77, Tryz.ntmps77
      go_wp2
      go_ret
      exact ⟨rfl, rfl⟩
    · have h2' : decide (x ≤ hi) = false := decide_eq_false h2
      rw [decide_eq_true h1, h2']
      go_enter Tryz.func77, Tryz.ntmps77
      go_wp2
      go_ret
      exact ⟨rfl, rfl⟩
  · have h1' : decide (lo ≤ x) = false := decide_eq_false h1
    rw [h1']
    go_enter Tryz.func77, Tryz.ntmps77
    go_wp2
    go_ret
    exact ⟨rfl, rfl⟩
theorem itime_any (x : Int) (w : World) : Calls Tryz.prog 168 #[.int .i64 x] w fun e w' => e = .returned (.bool (timeB x)) ∧ w' = w := by
  go_enter Tryz.func168, Tryz.ntmps168
  go_wp2_with (first | (go_at_call 77; refine (iwithin_any _ _ _ _).mono ?_; rintro e w2 ⟨rfl, rfl⟩))
  go_ret
  exact ⟨rfl, rfl⟩
theorem irate_any (x : Int) (w : World) : Calls Tryz.prog 190 #[.int .i64 x] w fun e w' => e = .returned (.bool (rateB x)) ∧ w' = w := by
  go_enter Tryz.func190, Tryz.ntmps190
  go_wp2_with (first | (go_at_call 77; refine (iwithin_any _ _ _ _).mono ?_; rintro e w2 ⟨rfl, rfl⟩))
  go_ret
  exact ⟨rfl, rfl⟩
/-- The block that a slice may write into: none where it has no room. -/
def roomB : Value → Option Nat
  | .slice (some p) _ (_ + 1) => some p.block
  | _ => none
theorem room_own {a : Option Addr} {n c g : Nat} (h : roomB (.slice a n c) = some g) : (Value.slice a n c).ownBlock = some g := by
  cases a with
  | none => cases h
  | some p => cases c with
    | zero => cases h
    | succ c => exact h
theorem room_zero (a : Option Addr) (n : Nat) : roomB (.slice a n 0) = none := by cases a <;> rfl
end Go.Proofs.YtkohlmloobojfaaGreat
