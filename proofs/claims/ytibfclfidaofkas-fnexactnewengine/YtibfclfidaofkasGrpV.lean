/- Lemmas on the way, of several texts: Flw, FlwPut, FlwOpen, FlwLaw, FlwTo, FlwEq, FlwMark, FlwMarkF, FlwHeldF, FlwMarkT. -/
import Derived.Test.YtibfclfidaofkasGrpE
import Derived.Test.YtibfclfidaofkasGrpC
import Derived.Deep.Strs
import Derived.Deep.RegionHeld3
import Derived.Deep.DeepCutAuto
import Derived.OwnWalk
import Derived.LoopTactic
import Derived.Laws.OwnMore
namespace Go.Proofs.Ytibfclfidaofkas
open Go.ChangeShapes Go.WideShapes Go.ChangeAt Go.RowKit
set_option maxRecDepth 100000
set_option linter.unusedVariables false

/-- Only blocks from lo up to hi have turned, of those that were there. -/
structure OnlyI (lo hi : Nat) (w w' : World) : Prop where
  os : w'.os = w.os
  tape : w'.tape = w.tape
  output : w'.output = w.output
  size : w.heap.size ≤ w'.heap.size
  block : ∀ k, k < w.heap.size → (k < lo ∨ hi ≤ k) → w'.heap[k]? = w.heap[k]?
theorem OnlyI.refl (lo hi : Nat) (w : World) : OnlyI lo hi w w := ⟨rfl, rfl, rfl, Nat.le_refl _, fun _ _ _ => rfl⟩
theorem OnlyI.trans {lo hi : Nat} {u v w : World} (h : OnlyI lo hi u v) (k : OnlyI lo hi v w) : OnlyI lo hi u w :=
  ⟨k.os.trans h.os, k.tape.trans h.tape, k.output.trans h.output, Nat.le_trans h.size k.size, fun b hb hn => (k.block b (Nat.lt_of_lt_of_le hb h.size) hn).trans (h.block b hb hn)⟩
theorem OnlyI.of_below {lo hi : Nat} {w w' : World} (h : Below w.heap.size w w') : OnlyI lo hi w w' := ⟨h.os, h.tape, h.output, h.size, fun k hk _ => h.block k hk⟩
theorem OnlyI.below {lo hi B : Nat} {w w' : World} (h : OnlyI lo hi w w') (hl : B ≤ lo) (hB : B ≤ w.heap.size) : Below B w w' :=
  ⟨h.os, h.tape, h.output, h.size, fun k hk => h.block k (by omega) (by omega)⟩
theorem OnlyI.ofO {lo hi : Nat} {o : Option Nat} {w w' : World} (h : OnlyO o w w') (ho : ∀ g, o = some g → lo ≤ g ∧ g < hi) : OnlyI lo hi w w' :=
  ⟨h.os, h.tape, h.output, h.size, fun k hk hn => h.block k hk (fun e => by have := ho k e; omega)⟩
theorem OnlyI.wider {lo hi lo' hi' : Nat} {w w' : World} (h : OnlyI lo hi w w') (h1 : lo' ≤ lo) (h2 : hi ≤ hi') : OnlyI lo' hi' w w' := ⟨h.os, h.tape, h.output, h.size, fun k hk hn => h.block k hk (by omega)⟩
theorem OnlyI.cell {lo hi : Nat} {w w' : World} (h : OnlyI lo hi w w') {p : Addr} (hp : p.block < w.heap.size) (hn : p.block < lo ∨ hi ≤ p.block) : w'.cell? p = w.cell? p := World.cell?_of_block (w := w) (h.block p.block hp hn)
theorem OnlyI.frozen {lo hi : Nat} {w w' : World} (h : OnlyI lo hi w w') {p : Addr} (hp : p.block < w.heap.size) (hn : p.block < lo ∨ hi ≤ p.block) : w'.frozen? p = w.frozen? p := World.frozen?_of_block (w := w) (h.block p.block hp hn)
theorem OnlyI.setCell {lo hi : Nat} {w w' : World} (h : OnlyI lo hi w w') {b i : Nat} (h1 : lo ≤ b) (h2 : b < hi) (v : Value) : OnlyI lo hi w (w'.setCell ⟨b, i, none⟩ v) :=
  h.trans ⟨rfl, rfl, rfl, by simp, fun k _ hn => Below.heap_setCell _ _ _ _ (by show k ≠ b; omega)⟩
theorem Cells.onlyI {lo hi : Nat} {w w' : World} (ho : OnlyI lo hi w w') : ∀ {cs : List (Nat × Nat × Value)}, (∀ c ∈ cs, c.1 < lo ∨ hi ≤ c.1) → Cells w cs → Cells w' cs
  | [], _, _ => trivial
  | (b, o, v) :: r, h, ⟨⟨h1, h2⟩, h3⟩ => ⟨⟨Nat.lt_of_lt_of_le h1 ho.size, (ho.cell (p := ⟨b, o, none⟩) h1 (h (b, o, v) (List.mem_cons_self ..))).trans h2⟩, Cells.onlyI ho (fun c hc => h c (List.mem_cons_of_mem _ hc)) h3⟩

theorem newB (w : World) (o : Obj) : Below w.heap.size w (w.alloc o) := (Below.refl _ _).alloc (Nat.le_refl _) _
/-! Reading -/
abbrev F8 := Int × Int × List Int
theorem ISmp.mono {B : Nat} {w w' : World} {a : Option Addr} {xs : List Int} (h : ISmp B w a xs) (hb : Below B w w') : ISmp B w' a xs := fun i hi => h.at hb i hi
theorem ISmp.up {B B' : Nat} {w : World} {a : Option Addr} {xs : List Int} (h : ISmp B w a xs) (hb : B ≤ B') : ISmp B' w a xs := fun i hi => by
  obtain ⟨b, off, e, hl, c⟩ := h i hi
  exact ⟨b, off, e, Nat.lt_of_lt_of_le hl hb, c⟩
theorem ISmp.here {w x : World} {a : Option Addr} {xs : List Int} (h : ISmp w.heap.size w a xs) (hb : Below w.heap.size w x) : ISmp x.heap.size x a xs := (h.mono hb).up hb.size
/-- Flows that can be read: cells of old memory. -/
def Fls (B : Nat) (w : World) (a : Option Addr) (fs : List F8) : Prop :=
  ∀ i (h : i < fs.length), ∃ b off sa sc, a = some ⟨b, off, none⟩ ∧ b < B ∧ w.cell? ⟨b, off + i * 3, none⟩ = some (.int .i64 fs[i].1) ∧ w.cell? ⟨b, off + i * 3 + 1, none⟩ = some (.int .i64 fs[i].2.1) ∧ w.cell? ⟨b, off + i * 3 + 2, none⟩ = some (.slice sa fs[i].2.2.length sc) ∧ ISmp B w sa fs[i].2.2
theorem Fls.nil (B : Nat) (w : World) (a : Option Addr) : Fls B w a [] := fun i h => by cases h
theorem Fls.mono {B : Nat} {w w' : World} {a : Option Addr} {fs : List F8} (h : Fls B w a fs) (hb : Below B w w') : Fls B w' a fs := fun i hi => by
  obtain ⟨b, off, sa, sc, e, hl, c0, c1, c2, s⟩ := h i hi
  exact ⟨b, off, sa, sc, e, hl, (hb.cell (by exact hl)).trans c0, (hb.cell (by exact hl)).trans c1, (hb.cell (by exact hl)).trans c2, s.mono hb⟩
theorem Fls.up {B B' : Nat} {w : World} {a : Option Addr} {fs : List F8} (h : Fls B w a fs) (hb : B ≤ B') : Fls B' w a fs := fun i hi => by
  obtain ⟨b, off, sa, sc, e, hl, c0, c1, c2, s⟩ := h i hi
  exact ⟨b, off, sa, sc, e, Nat.lt_of_lt_of_le hl hb, c0, c1, c2, s.up hb⟩
theorem Fls.here {w x : World} {a : Option Addr} {fs : List F8} (h : Fls w.heap.size w a fs) (hb : Below w.heap.size w x) : Fls x.heap.size x a fs := (h.mono hb).up hb.size
theorem Fls.at {B : Nat} {w : World} {a : Option Addr} {fs : List F8} (h : Fls B w a fs) {w' : World} (hb : Below B w w') (i : Nat) (hi : i < fs.length) :
    ∃ b off sa sc, a = some ⟨b, off, none⟩ ∧ b < B ∧ w'.cell? ⟨b, off + i * 3, none⟩ = some (.int .i64 fs[i].1) ∧ w'.cell? ⟨b, off + i * 3 + 1, none⟩ = some (.int .i64 fs[i].2.1) ∧ w'.cell? ⟨b, off + i * 3 + 2, none⟩ = some (.slice sa fs[i].2.2.length sc) ∧ ISmp B w' sa fs[i].2.2 := h.mono hb i hi

/-! Owning -/
/-- The block whose items a list has. -/
def elB : Value → Option Nat
  | .slice (some a) (_ + 1) _ => some a.block
  | _ => none
/-- v is the list xs of numbers; its items lie in a block from lo up to hi and may be written. -/
def IO (w : World) (lo hi : Nat) (v : Value) (xs : List Int) : Prop :=
  ∃ a cap, v = .slice a xs.length cap ∧ xs.length ≤ cap ∧ (xs = [] ∨ ∃ g off, a = some ⟨g, off, none⟩ ∧ lo ≤ g ∧ g < hi ∧ g < w.heap.size ∧ ∀ i (h : i < xs.length), w.cell? ⟨g, off + i, none⟩ = some (.int .i64 xs[i]) ∧ w.frozen? ⟨g, off + i, none⟩ = false)
theorem IO.el {w : World} {lo hi : Nat} {v : Value} {xs : List Int} (h : IO w lo hi v xs) {b : Nat} (hb : elB v = some b) : lo ≤ b ∧ b < hi ∧ b < w.heap.size := by
  obtain ⟨a, cap, rfl, _, h⟩ := h
  rcases h with rfl | ⟨g, off, rfl, h1, h2, h3, _⟩
  · cases a <;> cases hb
  · cases hn : xs.length with
    | zero => rw [hn] at hb; cases hb
    | succ n =>
      rw [hn] at hb
      have e : g = b := Option.some.inj hb
      subst e
      exact ⟨h1, h2, h3⟩
theorem el_nil (a : Option Addr) (cap : Nat) : elB (.slice a 0 cap) = none := by cases a <;> rfl
theorem IO.smp {w : World} {lo hi : Nat} {v : Value} {xs : List Int} (h : IO w lo hi v xs) : ∃ a cap, v = .slice a xs.length cap ∧ xs.length ≤ cap ∧ ISmp w.heap.size w a xs := by
  obtain ⟨a, cap, rfl, hc, h⟩ := h
  rcases h with rfl | ⟨g, off, rfl, h1, h2, h3, h4⟩
  · exact ⟨a, cap, rfl, hc, ismp_nil _ _ _⟩
  · exact ⟨_, _, rfl, hc, fun i hi => ⟨g, off, rfl, h3, (h4 i hi).1⟩⟩
/-- Nothing of its block has turned. -/
theorem IO.same {w w' : World} {lo hi : Nat} {v : Value} {xs : List Int} (h : IO w lo hi v xs) (hs : w.heap.size ≤ w'.heap.size) (hb : ∀ b, elB v = some b → w'.heap[b]? = w.heap[b]?) : IO w' lo hi v xs := by
  obtain ⟨a, cap, rfl, hc, h⟩ := h
  refine ⟨a, cap, rfl, hc, ?_⟩
  rcases h with rfl | ⟨g, off, rfl, h1, h2, h3, h4⟩
  · exact .inl rfl
  · cases hn : xs with
    | nil => exact .inl rfl
    | cons x r =>
      rw [← hn]
      have e := hb g (by rw [hn]; rfl)
      exact .inr ⟨g, off, rfl, h1, h2, Nat.lt_of_lt_of_le h3 hs, fun i hi => ⟨(World.cell?_of_block (a := ⟨g, off + i, none⟩) e).trans (h4 i hi).1, (World.frozen?_of_block (a := ⟨g, off + i, none⟩) e).trans (h4 i hi).2⟩⟩
theorem IO.wider {w : World} {lo hi lo' hi' : Nat} {v : Value} {xs : List Int} (h : IO w lo hi v xs) (h1 : lo' ≤ lo) (h2 : hi ≤ hi') : IO w lo' hi' v xs := by
  obtain ⟨a, cap, rfl, hc, h⟩ := h
  refine ⟨a, cap, rfl, hc, ?_⟩
  rcases h with rfl | ⟨g, off, rfl, k1, k2, h3⟩
  · exact .inl rfl
  · exact .inr ⟨g, off, rfl, by omega, by omega, h3⟩
theorem IV.io {w : World} {lo : Nat} {v : Value} {xs : List Int} (h : IV w lo v xs) : IO w lo w.heap.size v xs := by
  rcases h with ⟨g, cap, rfl, h1, h2, f, hc⟩ | ⟨rfl, rfl⟩
  · exact ⟨_, cap, rfl, hc, .inr ⟨g, 0, rfl, h1, h2, h2, fun i hi => by rw [Nat.zero_add]; exact ⟨f.got i hi hi, (f.any i hi).2⟩⟩⟩
  · exact ⟨none, 0, rfl, Nat.le_refl _, .inl rfl⟩
/-- Block g has room for n flows; the first ones are fs, their lists lie in vs. -/
structure FO (w : World) (lo hi g n : Nat) (vs : List Value) (fs : List F8) : Prop where
  g0 : lo ≤ g
  g1 : g < hi
  top : hi ≤ w.heap.size
  len : vs.length = fs.length
  le : fs.length ≤ n
  any : ∀ j, j < n * 3 → (∃ z, w.cell? ⟨g, j, none⟩ = some z) ∧ w.frozen? ⟨g, j, none⟩ = false
  got : ∀ i (h : i < fs.length) (h' : i < vs.length), w.cell? ⟨g, i * 3, none⟩ = some (.int .i64 fs[i].1) ∧ w.cell? ⟨g, i * 3 + 1, none⟩ = some (.int .i64 fs[i].2.1) ∧ w.cell? ⟨g, i * 3 + 2, none⟩ = some vs[i]
  own : ∀ i (h : i < fs.length) (h' : i < vs.length), IO w lo hi vs[i] fs[i].2.2
  far : ∀ i (h' : i < vs.length), elB vs[i] ≠ some g
  apart : ∀ i j (h : i < vs.length) (h' : j < vs.length), i ≠ j → ∀ b, elB vs[i] = some b → elB vs[j] ≠ some b
theorem FO.same {w w' : World} {lo hi g n : Nat} {vs : List Value} {fs : List F8} (h : FO w lo hi g n vs fs) (hs : w.heap.size ≤ w'.heap.size) (hb : ∀ b, lo ≤ b → b < hi → w'.heap[b]? = w.heap[b]?) : FO w' lo hi g n vs fs := by
  have eg := hb g h.g0 h.g1
  refine ⟨h.g0, h.g1, Nat.le_trans h.top hs, h.len, h.le, fun j hj => ?_, fun i hi' h' => ?_, fun i hi' h' => ?_, h.far, h.apart⟩
  · obtain ⟨⟨z, hz⟩, hf⟩ := h.any j hj
    exact ⟨⟨z, (World.cell?_of_block (a := ⟨g, j, none⟩) eg).trans hz⟩, (World.frozen?_of_block (a := ⟨g, j, none⟩) eg).trans hf⟩
  · obtain ⟨c0, c1, c2⟩ := h.got i hi' h'
    exact ⟨(World.cell?_of_block (a := ⟨g, i * 3, none⟩) eg).trans c0, (World.cell?_of_block (a := ⟨g, i * 3 + 1, none⟩) eg).trans c1, (World.cell?_of_block (a := ⟨g, i * 3 + 2, none⟩) eg).trans c2⟩
  · have o := h.own i hi' h'
    exact o.same hs (fun b e => hb b (o.el e).1 (o.el e).2.1)
theorem FO.next {w w' : World} {lo hi g n : Nat} {vs : List Value} {fs : List F8} (h : FO w lo hi g n vs fs) (hb : Below w.heap.size w w') : FO w' lo hi g n vs fs :=
  h.same hb.size (fun b _ h2 => hb.block b (Nat.lt_of_lt_of_le h2 h.top))
theorem FO.wider {w : World} {lo hi lo' hi' g n : Nat} {vs : List Value} {fs : List F8} (h : FO w lo hi g n vs fs) (h1 : lo' ≤ lo) (h2 : hi ≤ hi') (h3 : hi' ≤ w.heap.size) : FO w lo' hi' g n vs fs :=
  ⟨Nat.le_trans h1 h.g0, Nat.lt_of_lt_of_le h.g1 h2, h3, h.len, h.le, h.any, h.got, fun i hi' h' => (h.own i hi' h').wider h1 h2, h.far, h.apart⟩
theorem FO.fls {w : World} {lo hi g n : Nat} {vs : List Value} {fs : List F8} (h : FO w lo hi g n vs fs) : Fls w.heap.size w (some ⟨g, 0, none⟩) fs := fun i hi' => by
  have h' : i < vs.length := by rw [h.len]; exact hi'
  obtain ⟨c0, c1, c2⟩ := h.got i hi' h'
  obtain ⟨a, cap, e, _, s⟩ := (h.own i hi' h').smp
  rw [e] at c2
  have := h.g1
  have := h.top
  exact ⟨g, 0, a, cap, rfl, by omega, by rw [Nat.zero_add]; exact c0, by rw [Nat.zero_add]; exact c1, by rw [Nat.zero_add]; exact c2, s⟩
/-- v is the list fs of flows; all that it has lies in blocks from lo up to hi and may be written; no block serves twice. -/
def TV (w : World) (lo hi : Nat) (v : Value) (fs : List F8) : Prop :=
  (∃ g cap vs, v = .slice (some ⟨g, 0, none⟩) fs.length cap ∧ fs.length ≤ cap ∧ FO w lo hi g fs.length vs fs) ∨ (fs = [] ∧ ∃ a c, v = .slice a 0 c)
theorem TV.zero (w : World) (lo hi : Nat) (a : Option Addr) (c : Nat) : TV w lo hi (.slice a 0 c) [] := .inr ⟨rfl, a, c, rfl⟩
theorem TV.same {w w' : World} {lo hi : Nat} {v : Value} {fs : List F8} (h : TV w lo hi v fs) (hs : w.heap.size ≤ w'.heap.size) (hb : ∀ b, lo ≤ b → b < hi → b < w.heap.size → w'.heap[b]? = w.heap[b]?) : TV w' lo hi v fs := by
  rcases h with ⟨g, cap, vs, e, hc, f⟩ | h
  · exact .inl ⟨g, cap, vs, e, hc, f.same hs (fun b h1 h2 => hb b h1 h2 (Nat.lt_of_lt_of_le h2 f.top))⟩
  · exact .inr h
theorem TV.next {w w' : World} {lo hi : Nat} {v : Value} {fs : List F8} (h : TV w lo hi v fs) (hb : Below w.heap.size w w') : TV w' lo hi v fs := h.same hb.size (fun b _ _ h3 => hb.block b h3)
theorem TV.onlyI {w w' : World} {lo hi lo' hi' : Nat} {v : Value} {fs : List F8} (h : TV w lo hi v fs) (hb : OnlyI lo' hi' w w') (hd : hi ≤ lo' ∨ hi' ≤ lo) : TV w' lo hi v fs := h.same hb.size (fun b h1 h2 h3 => hb.block b h3 (by omega))
theorem TV.wider {w : World} {lo hi lo' hi' : Nat} {v : Value} {fs : List F8} (h : TV w lo hi v fs) (h1 : lo' ≤ lo) (h2 : hi ≤ hi') (h3 : hi' ≤ w.heap.size) : TV w lo' hi' v fs := by
  rcases h with ⟨g, cap, vs, e, hc, f⟩ | h
  · exact .inl ⟨g, cap, vs, e, hc, f.wider h1 h2 h3⟩
  · exact .inr h
theorem TV.fls {w : World} {lo hi n c : Nat} {a : Option Addr} {fs : List F8} (h : TV w lo hi (.slice a n c) fs) : n = fs.length ∧ Fls w.heap.size w a fs := by
  rcases h with ⟨g, cap, vs, e, hc, f⟩ | ⟨rfl, a', c', e⟩
  · injection e with e1 e2 e3
    subst e1 e2
    exact ⟨rfl, f.fls⟩
  · injection e with e1 e2 e3
    exact ⟨e2, Fls.nil _ _ _⟩
theorem TV.slice {w : World} {lo hi : Nat} {v : Value} {fs : List F8} (h : TV w lo hi v fs) : ∃ a c, v = .slice a fs.length c := by
  rcases h with ⟨g, cap, vs, e, hc, f⟩ | ⟨rfl, a', c', e⟩
  · exact ⟨_, _, e⟩
  · exact ⟨_, _, e⟩
abbrev turnV (a : Option Addr) (n c : Nat) (at' : Int) (fresh : Bool) : Value := .agg #[.slice a n c, .int .i64 at', .bool fresh]
end Go.Proofs.Ytibfclfidaofkas
namespace Go.Proofs.Ytibfclfidaofkas
open Go.ChangeShapes Go.WideShapes Go.ChangeAt Go.RowKit
set_option maxRecDepth 100000
set_option linter.unusedVariables false

/-- Three cells are stored over. -/
def put3 (w : World) (g o : Nat) (a b c : Value) : World := ((w.setCell ⟨g, o, none⟩ a).setCell ⟨g, o + 1, none⟩ b).setCell ⟨g, o + 2, none⟩ c
theorem put3_other {w : World} {g o j : Nat} {a b c : Value} (h : j < o ∨ o + 2 < j) : (put3 w g o a b c).cell? ⟨g, j, none⟩ = w.cell? ⟨g, j, none⟩ :=
  (set_other (by omega)).trans ((set_other (by omega)).trans (set_other (by omega)))
theorem put3_same {w : World} {g o : Nat} (a b c : Value) {z0 z1 z2 : Value} (h0 : w.cell? ⟨g, o, none⟩ = some z0) (h1 : w.cell? ⟨g, o + 1, none⟩ = some z1) (h2 : w.cell? ⟨g, o + 2, none⟩ = some z2) :
    (put3 w g o a b c).cell? ⟨g, o, none⟩ = some a ∧ (put3 w g o a b c).cell? ⟨g, o + 1, none⟩ = some b ∧ (put3 w g o a b c).cell? ⟨g, o + 2, none⟩ = some c :=
  ⟨(set_other (by omega)).trans ((set_other (by omega)).trans (set_same _ h0)),
   (set_other (by omega)).trans (set_same _ ((set_other (by omega)).trans h1)),
   set_same _ ((set_other (by omega)).trans ((set_other (by omega)).trans h2))⟩
theorem put3_frozen {w : World} {g o : Nat} (a b c : Value) (p : Addr) : (put3 w g o a b c).frozen? p = w.frozen? p := by unfold put3; simp
theorem put3_size {w : World} {g o : Nat} {a b c : Value} : (put3 w g o a b c).heap.size = w.heap.size := by unfold put3; simp
theorem put3_block {w : World} {g o : Nat} {a b c : Value} {k : Nat} (h : k ≠ g) : (put3 w g o a b c).heap[k]? = w.heap[k]? := by
  unfold put3
  rw [Below.heap_setCell _ _ _ _ (by exact h), Below.heap_setCell _ _ _ _ (by exact h), Below.heap_setCell _ _ _ _ (by exact h)]
theorem put3_only {lo hi : Nat} {w w0 : World} {g o : Nat} {a b c : Value} (h : OnlyI lo hi w0 w) (h1 : lo ≤ g) (h2 : g < hi) : OnlyI lo hi w0 (put3 w g o a b c) := ((h.setCell h1 h2 _).setCell h1 h2 _).setCell h1 h2 _
theorem put3_below {B : Nat} {w w0 : World} {g o : Nat} {a b c : Value} (h : Below B w0 w) (hg : B ≤ g) : Below B w0 (put3 w g o a b c) := ((h.setCell (by exact hg) _).setCell (by exact hg) _).setCell (by exact hg) _
/-- One more flow behind the others; its list is new. -/
theorem FO.push {w : World} {lo hi g n k : Nat} {vs : List Value} {fs : List F8} (f : FO w lo hi g n vs fs) (ek : k = fs.length) (hk : k < n) (q d : Int) {v : Value} {xs : List Int} (hv : IO w lo w.heap.size v xs) (hn : ∀ b, elB v = some b → hi ≤ b) :
    FO (put3 w g (k * 3) (.int .i64 q) (.int .i64 d) v) lo w.heap.size g n (vs ++ [v]) (fs ++ [(q, d, xs)]) := by
  subst ek
  obtain ⟨⟨z0, h0⟩, _⟩ := f.any (fs.length * 3) (by omega)
  obtain ⟨⟨z1, h1⟩, _⟩ := f.any (fs.length * 3 + 1) (by omega)
  obtain ⟨⟨z2, h2⟩, _⟩ := f.any (fs.length * 3 + 2) (by omega)
  obtain ⟨s0, s1, s2⟩ := put3_same (.int .i64 q) (.int .i64 d) v h0 h1 h2
  have g1 := f.g1
  have tp := f.top
  have el : ∀ i (h' : i < vs.length) b, elB vs[i] = some b → b < hi := fun i h' b e => ((f.own i (by rw [← f.len]; exact h') h').el e).2.1
  have at1 : ∀ i (h : i < (vs ++ [v]).length), (∃ h' : i < vs.length, (vs ++ [v])[i] = vs[i]) ∨ (i = fs.length ∧ (vs ++ [v])[i] = v) := fun i h => by
    by_cases e : i < vs.length
    · exact .inl ⟨e, List.getElem_append_left e⟩
    · have e2 : i = vs.length := by simp at h; omega
      refine .inr ⟨e2.trans f.len, ?_⟩
      subst e2
      simp
  refine ⟨f.g0, by omega, by rw [put3_size]; exact Nat.le_refl _, by simp [f.len], by simp; omega, fun j hj => ⟨?_, (put3_frozen _ _ _ _).trans (f.any j hj).2⟩, fun i hi' h' => ?_, fun i hi' h' => ?_, fun i h' => ?_, fun i j hi' hj' hne b e => ?_⟩
  · by_cases e0 : j = fs.length * 3
    · subst e0; exact ⟨_, s0⟩
    · by_cases e1 : j = fs.length * 3 + 1
      · subst e1; exact ⟨_, s1⟩
      · by_cases e2 : j = fs.length * 3 + 2
        · subst e2; exact ⟨_, s2⟩
        · obtain ⟨z, hz⟩ := (f.any j hj).1
          exact ⟨z, (put3_other (by omega)).trans hz⟩
  · rcases at1 i h' with ⟨k, e⟩ | ⟨k, e⟩
    · have k' : i < fs.length := by rw [← f.len]; exact k
      rw [e, List.getElem_append_left k']
      obtain ⟨c0, c1, c2⟩ := f.got i k' k
      exact ⟨(put3_other (by omega)).trans c0, (put3_other (by omega)).trans c1, (put3_other (by omega)).trans c2⟩
    · rw [e]
      subst k
      simp only [List.getElem_append_right (Nat.le_refl _), Nat.sub_self, List.getElem_cons_zero]
      exact ⟨s0, s1, s2⟩
  · rcases at1 i h' with ⟨k, e⟩ | ⟨k, e⟩
    · have k' : i < fs.length := by rw [← f.len]; exact k
      rw [e, List.getElem_append_left k']
      exact ((f.own i k' k).wider (Nat.le_refl _) tp).same (by rw [put3_size]; exact Nat.le_refl _) (fun b eb => put3_block (fun e' => f.far i k (by rw [eb, e'])))
    · rw [e]
      subst k
      simp only [List.getElem_append_right (Nat.le_refl _), Nat.sub_self, List.getElem_cons_zero]
      exact hv.same (by rw [put3_size]; exact Nat.le_refl _) (fun b eb => put3_block (by have := hn b eb; omega))
  · rcases at1 i h' with ⟨k, e⟩ | ⟨k, e⟩
    · rw [e]; exact f.far i k
    · rw [e]; intro e'; have := hn g e'; omega
  · rcases at1 i hi' with ⟨k, e1⟩ | ⟨k, e1⟩
    · rw [e1] at e
      rcases at1 j hj' with ⟨k2, e2⟩ | ⟨k2, e2⟩
      · rw [e2]; exact f.apart i j k k2 hne b e
      · rw [e2]; intro e'; have := hn b e'; have := el i k b e; omega
    · rw [e1] at e
      rcases at1 j hj' with ⟨k2, e2⟩ | ⟨k2, e2⟩
      · rw [e2]; intro e'; have := hn b e; have := el j k2 b e'; omega
      · omega
/-- A flow is another behind it: its three cells, and what its list has; whatever else it has stays. -/
theorem FO.turn {w w' : World} {lo hi g n i : Nat} {vs : List Value} {fs : List F8} (f : FO w lo hi g n vs fs) (hi' : i < fs.length) (hv : i < vs.length) {q d : Int} {v : Value} {xs : List Int} (hs : w.heap.size ≤ w'.heap.size)
    (hb : ∀ b, lo ≤ b → b < hi → b ≠ g → elB vs[i] ≠ some b → w'.heap[b]? = w.heap[b]?) (hc : ∀ j, j < i * 3 ∨ i * 3 + 2 < j → w'.cell? ⟨g, j, none⟩ = w.cell? ⟨g, j, none⟩) (hf : ∀ j, w'.frozen? ⟨g, j, none⟩ = w.frozen? ⟨g, j, none⟩)
    (c0 : w'.cell? ⟨g, i * 3, none⟩ = some (.int .i64 q)) (c1 : w'.cell? ⟨g, i * 3 + 1, none⟩ = some (.int .i64 d)) (c2 : w'.cell? ⟨g, i * 3 + 2, none⟩ = some v) (ho : IO w' lo hi v xs) (he : ∀ b, elB v = some b → elB vs[i] = some b) :
    FO w' lo hi g n (vs.set i v) (fs.set i (q, d, xs)) := by
  have le := f.le
  refine ⟨f.g0, f.g1, Nat.le_trans f.top hs, by simp [f.len], by simp [f.le], fun j hj => ⟨?_, (hf j).trans (f.any j hj).2⟩, fun k hk hk' => ?_, fun k hk hk' => ?_, fun k hk => ?_, fun k j hk hj hne b e => ?_⟩
  · by_cases e0 : j = i * 3
    · subst e0; exact ⟨_, c0⟩
    · by_cases e1 : j = i * 3 + 1
      · subst e1; exact ⟨_, c1⟩
      · by_cases e2 : j = i * 3 + 2
        · subst e2; exact ⟨_, c2⟩
        · obtain ⟨z, hz⟩ := (f.any j hj).1
          exact ⟨z, (hc j (by omega)).trans hz⟩
  · rw [List.getElem_set, List.getElem_set]
    by_cases e : i = k
    · subst e
      rw [if_pos rfl, if_pos rfl]
      exact ⟨c0, c1, c2⟩
    · rw [if_neg e, if_neg e]
      obtain ⟨k0, k1, k2⟩ := f.got k (by simpa using hk) (by simpa using hk')
      exact ⟨(hc _ (by omega)).trans k0, (hc _ (by omega)).trans k1, (hc _ (by omega)).trans k2⟩
  · rw [List.getElem_set, List.getElem_set]
    by_cases e : i = k
    · subst e
      rw [if_pos rfl, if_pos rfl]
      exact ho
    · rw [if_neg e, if_neg e]
      have kv : k < vs.length := by simpa using hk'
      have o := f.own k (by simpa using hk) kv
      exact o.same hs (fun b eb => hb b (o.el eb).1 (o.el eb).2.1 (fun e' => f.far k kv (by rw [eb, e'])) (fun e' => f.apart i k hv kv e b e' eb))
  · rw [List.getElem_set]
    by_cases e : i = k
    · rw [if_pos e]
      intro e'
      exact f.far i hv (he g e')
    · rw [if_neg e]
      exact f.far k (by simpa using hk)
  · rw [List.getElem_set] at e ⊢
    by_cases e1 : i = k
    · subst e1
      rw [if_pos rfl] at e
      rw [if_neg hne]
      exact f.apart i j hv (by simpa using hj) hne b (he b e)
    · rw [if_neg e1] at e
      by_cases e2 : i = j
      · rw [if_pos e2]
        intro e'
        exact f.apart k i (by simpa using hk) hv (by omega) b e (he b e')
      · rw [if_neg e2]
        exact f.apart k j (by simpa using hk) (by simpa using hj) hne b e
end Go.Proofs.Ytibfclfidaofkas
namespace Go.Proofs.Ytibfclfidaofkas
open Go.ChangeShapes Go.WideShapes Go.ChangeAt Go.RowKit
set_option maxRecDepth 100000
set_option linter.unusedVariables false

theorem pick_list {α : Type} {P : Nat → α → Prop} : ∀ {n : Nat}, (∀ i, i < n → ∃ x, P i x) → ∃ xs : List α, xs.length = n ∧ ∀ i (h : i < xs.length), P i xs[i]
  | 0, _ => ⟨[], rfl, fun i h => by cases h⟩
  | n + 1, h => by
    obtain ⟨xs, hl, hx⟩ := pick_list (n := n) (fun i hi => h i (by omega))
    obtain ⟨x, hp⟩ := h n (by omega)
    refine ⟨xs ++ [x], by simp [hl], fun i hi => ?_⟩
    by_cases e : i < xs.length
    · rw [List.getElem_append_left e]
      exact hx i e
    · have e2 : i = xs.length := by simp at hi; omega
      subst e2
      rw [List.getElem_append_right (by omega)]
      simp only [Nat.sub_self, List.getElem_cons_zero]
      rw [hl]
      exact hp
section
variable {H : Type} {enc : TypeId × Value → H} {P : Program} {w : World} {sp : Nat → Bool} {held : Bool}
theorem open_numbers {t i : TypeId} (ht : P.underlying t = some (.slice i)) (hi : P.underlying i = some (.int .i64)) (ci : P.cellsOf i = 1) {fuel : Nat} {v : Value} {x : DataW H × List MemPlace}
    (h : DataW.trod enc P w 0 sp held fuel t [v] = some x) : ∃ (a : Option Addr) (cap : Nat) (xs : List Int), v = .slice a xs.length cap ∧ ISmp w.heap.size w a xs ∧ xs.length ≤ maxLen := by
  rcases DataW.trod_slice ht h with ⟨e1, _⟩ | ⟨a, len, cap, elems, rest, n, _, e1, _, _, hl, hm, hlen, hel, _, _⟩
  · obtain rfl : v = .slice none 0 0 := by simpa using e1
    exact ⟨none, 0, [], rfl, ismp_nil _ _ _, (by unfold maxLen; simp)⟩
  · obtain rfl : v = .slice (some a) len cap := by simpa using e1
    have one : ∀ j, j < len → ∃ p : Int, w.cell? (a.add j) = some (.int .i64 p) := by
      intro j hj
      obtain ⟨y, hy⟩ : ∃ y, elems[j]? = some y := ⟨_, List.getElem?_eq_getElem (by omega)⟩
      have hb := hel j hj
      rw [hy, ci, Nat.mul_one, Option.bind_eq_some_iff] at hb
      obtain ⟨cs, hc, htr⟩ := hb
      obtain ⟨p, e, _⟩ := DataW.trod_int hi htr
      obtain ⟨_, _, hcell⟩ := World.cells?_some hc
      subst e
      exact ⟨p, by simpa [Addr.add] using hcell 0 (by simp)⟩
    obtain ⟨xs, hx1, hx2⟩ := pick_list one
    refine ⟨some a, cap, xs, by rw [hx1], fun i hi' => ?_, by omega⟩
    have c := hx2 i hi'
    have hspot : a.spot = none := by
      obtain ⟨_, c0'⟩ := one 0 (by omega)
      simpa [Addr.add] using World.cell?_spot c0'
    obtain ⟨b, off, spot⟩ := a
    simp only at hspot
    subst hspot
    have e2 : ((⟨b, off, none⟩ : Addr).add i) = ⟨b, off + i, none⟩ := by unfold Addr.add; split <;> simp_all
    rw [e2] at c
    exact ⟨b, off, rfl, World.block_lt_of_cell? w _ c, c⟩
theorem open_flows {t e i s : TypeId} {f0 f1 f2 : Field} (ht : P.underlying t = some (.slice e)) (he : P.underlying e = some (.struct #[f0, f1, f2])) (hi : P.underlying i = some (.int .i64)) (hs : P.underlying s = some (.slice i)) (t0 : f0.type = i) (t1 : f1.type = i) (t2 : f2.type = s)
    (o0 : f0.offset = 0) (o1 : f1.offset = 1) (o2 : f2.offset = 2) (ci : P.cellsOf i = 1) (cs' : P.cellsOf s = 1) (ce : P.cellsOf e = 3) {fuel : Nat} {v : Value} {x : DataW H × List MemPlace}
    (h : DataW.trod enc P w 0 sp held fuel t [v] = some x) :
    ∃ (a : Option Addr) (cap : Nat) (fs : List F8), v = .slice a fs.length cap ∧ Fls w.heap.size w a fs ∧ fs.length ≤ maxLen ∧ ∀ f ∈ fs, f.2.2.length ≤ maxLen := by
  rcases DataW.trod_slice ht h with ⟨e1, _⟩ | ⟨a, len, cap, elems, rest, n, _, e1, _, _, hl, hm, hlen, hel, _, _⟩
  · obtain rfl : v = .slice none 0 0 := by simpa using e1
    exact ⟨none, 0, [], rfl, Fls.nil _ _ _, (by unfold maxLen; simp), fun f hf => by cases hf⟩
  · obtain rfl : v = .slice (some a) len cap := by simpa using e1
    have one : ∀ j, j < len → ∃ f : F8, (∃ sa sc, w.cell? (a.add (j * 3)) = some (.int .i64 f.1) ∧ w.cell? ((a.add (j * 3)).add 1) = some (.int .i64 f.2.1) ∧ w.cell? ((a.add (j * 3)).add 2) = some (.slice sa f.2.2.length sc) ∧ ISmp w.heap.size w sa f.2.2) ∧ f.2.2.length ≤ maxLen := by
      intro j hj
      obtain ⟨y, hy⟩ : ∃ y, elems[j]? = some y := ⟨_, List.getElem?_eq_getElem (by omega)⟩
      have hb := hel j hj
      rw [hy, ce, Option.bind_eq_some_iff] at hb
      obtain ⟨cs, hc, htr⟩ := hb
      obtain ⟨y0, y1, y2, m, _, hl3, h0, h1, h2⟩ := Go.Deep.trod_struct3 he htr
      rw [ce] at hl3
      obtain ⟨_, _, hcell⟩ := World.cells?_some hc
      match cs, hl3 with
      | [u0, u1, u2], _ =>
        rw [o0, t0, ci] at h0
        rw [o1, t1, ci] at h1
        rw [o2, t2, cs'] at h2
        obtain ⟨p, e0, _⟩ := DataW.trod_int hi h0
        obtain ⟨q, e1, _⟩ := DataW.trod_int hi h1
        simp only [List.drop_zero, List.take_succ_cons, List.take_zero, List.drop_succ_cons, List.cons.injEq, and_true] at e0 e1
        have h2' : DataW.trod enc P w 0 sp held m s [u2] = some y2 := h2
        obtain ⟨sa, sc, xs, e2, k1, k2⟩ := open_numbers hs hi ci h2'
        subst e0 e1 e2
        exact ⟨(p, q, xs), ⟨sa, sc, by simpa [Addr.add] using hcell 0 (by simp), by simpa using hcell 1 (by simp), by simpa using hcell 2 (by simp), k1⟩, k2⟩
    obtain ⟨fs, hx1, hx2⟩ := pick_list one
    refine ⟨some a, cap, fs, by rw [hx1], fun i hi' => ?_, by omega, fun f hf => ?_⟩
    · obtain ⟨⟨sa, sc, c0, c1, c2, hsm⟩, _⟩ := hx2 i hi'
      have hspot : a.spot = none := by
        obtain ⟨_, ⟨_, _, c0', _⟩, _⟩ := one 0 (by omega)
        simpa [Addr.add] using World.cell?_spot c0'
      obtain ⟨b, off, spot⟩ := a
      simp only at hspot
      subst hspot
      have e2 : ((⟨b, off, none⟩ : Addr).add (i * 3)) = ⟨b, off + i * 3, none⟩ := by unfold Addr.add; split <;> simp_all
      have e3 : ((⟨b, off + i * 3, none⟩ : Addr).add 1) = ⟨b, off + i * 3 + 1, none⟩ := by simp [Addr.add]
      have e4 : ((⟨b, off + i * 3, none⟩ : Addr).add 2) = ⟨b, off + i * 3 + 2, none⟩ := by simp [Addr.add]
      rw [e2] at c0 c1 c2
      rw [e3] at c1
      rw [e4] at c2
      exact ⟨b, off, sa, sc, rfl, World.block_lt_of_cell? w _ c0, c0, c1, c2, hsm⟩
    · obtain ⟨i, hi', rfl⟩ := List.mem_iff_getElem.1 hf
      exact (hx2 i hi').2
end
theorem cellsT_intS : Try.prog.cellsOf 62 = 1 := by kernel_rfl
theorem cellsT_i64 : Try.prog.cellsOf 2 = 1 := by kernel_rfl
theorem cellsT_bool : Try.prog.cellsOf 4 = 1 := by kernel_rfl
end Go.Proofs.Ytibfclfidaofkas
namespace Go.Proofs.Ytibfclfidaofkas
open Go.ChangeShapes Go.WideShapes Go.ChangeAt Go.RowKit
set_option maxRecDepth 100000
set_option linter.unusedVariables false
set_option linter.unusedSimpArgs false

/-- How many numbers the first k flows have. -/
def sumL (fs : List F8) : Nat → Nat
  | 0 => 0
  | k + 1 => sumL fs k + (match fs[k]? with | some f => f.2.2.length | none => 0)
theorem sumL_next {fs : List F8} {k : Nat} (h : k < fs.length) : sumL fs (k + 1) = sumL fs k + fs[k].2.2.length := by
  show sumL fs k + (match fs[k]? with | some f => f.2.2.length | none => 0) = _
  rw [List.getElem?_eq_getElem h]
theorem sumL_le (fs : List F8) (k : Nat) : ∀ d, sumL fs k ≤ sumL fs (k + d)
  | 0 => Nat.le_refl _
  | d + 1 => by
    have := sumL_le fs k d
    show sumL fs k ≤ sumL fs (k + d) + _
    omega
theorem sumL_mono (fs : List F8) {k m : Nat} (h : k ≤ m) : sumL fs k ≤ sumL fs m := by
  have := sumL_le fs k (m - k)
  rw [show k + (m - k) = m by omega] at this
  exact this
theorem szInt64S_gen (a : Option Addr) (n cap : Nat) (left : Int) (w : World) (hn : (n : Int) ≤ 9223372036854775807) (h0 : 0 ≤ left) (h1 : left ≤ 1048576) :
    Calls Try.prog 90 #[.slice a n cap, .int .i64 left] w fun e w' => e = .returned (.int .i64 (if (n : Int) ≤ left then left - n else -1)) ∧ w' = w := by
  by_cases h : (n : Int) ≤ left
  · have f : (0 : Int) ≤ left - (n : Int) := by omega
    rw [if_pos h]
    go_enter Try.func90, Try.ntmps90
    go_wp2
    go_ret
    exact ⟨rfl, rfl⟩
  · have f : left - (n : Int) < 0 := by omega
    rw [if_neg h]
    go_enter Try.func90, Try.ntmps90
    go_wp2
    go_ret
    exact ⟨rfl, rfl⟩
theorem info_int : (Try.prog.info? 2).map (fun i => (i.zero, i.size, i.bytes)) = some (some (.int .i64 0), 1, 8) := by kernel_rfl
theorem made_int (n j : Nat) (h : j < n * 1) : (madeCells (Value.int .i64 0).cells (n * 1)).toList[j]? = some (.int .i64 0) := by
  have hz : ∀ i : Nat, (#[Value.int .i64 0] : Array Value)[i % 1]! = .int .i64 0 := by
    intro i
    have : i % 1 = 0 := by omega
    rw [this]; rfl
  rw [Array.getElem?_toList]
  unfold madeCells
  rw [Array.getElem?_map, Array.getElem?_eq_getElem (by simpa using h)]
  show some _ = _
  rw [show ((Array.range (n * 1))[j]'(by simpa using h)) = j by simp]
  exact congrArg some (hz j)
theorem made_flow (n j : Nat) (h : j < n * 3) : ∃ z, (madeCells (Value.agg #[.int .i64 0, .int .i64 0, .slice none 0 0]).cells (n * 3)).toList[j]? = some z := by
  rw [Array.getElem?_toList]
  unfold madeCells
  rw [Array.getElem?_map, Array.getElem?_eq_getElem (by simpa using h)]
  exact ⟨_, rfl⟩
set_option maxHeartbeats 1000000 in
theorem toInt64S_any {w : World} {a : Option Addr} (cap : Nat) {xs : List Int} (h : ISmp w.heap.size w a xs) (hn : xs.length ≤ 1048576) :
    Calls Try.prog 93 #[.slice a xs.length cap] w fun e w' => ∃ g, e = .returned (.slice (some ⟨g, 0, none⟩) xs.length xs.length) ∧ w.heap.size ≤ g ∧ g < w'.heap.size ∧ IFill w' g xs.length xs xs.length ∧ Below w.heap.size w w' := by
  obtain ⟨i0, hi, hz0, hz1, hz2⟩ := info_parts info_int
  go_enter Try.func93, Try.ntmps93
  go_wp2_with (first
    | (at_make; refine wpList_make_full _ rfl _ _ 62 rfl w.heap.size 2 i0 _ 1 Try.underlying62 hi hz0 hz1 _ _ _ _ xs.length rfl rfl rfl rfl (by rw [hz2]; omega) (by unfold maxLen; omega) (Nat.le_refl _) ?_; intro w1 own1 gr1))
  have hb1 : Below w.heap.size w w1 := (Below.refl _ _).grown gr1 (Nat.le_refl _) (fun k hk => by cases hk)
  have hg1 : w.heap.size < w1.heap.size := (own1.lt _ rfl).2
  have f1 : IFill w1 w.heap.size xs.length xs 0 := ⟨fun j hj => ⟨⟨0, by
    have hc := own1.cellAt j (by omega)
    rw [hc]
    exact made_int _ j (by omega)⟩, own1.frozenAt j⟩, fun i hi hk => by omega⟩
  go_loopw [4] (fun i wr => ∃ k : Nat, i = .int .i64 k ∧ k ≤ xs.length ∧ IFill wr w.heap.size xs.length xs k ∧ w.heap.size < wr.heap.size ∧ Below w.heap.size w wr) (fun i _ => xs.length - (intOf i).toNat)
  case atStart => exact ⟨0, rfl, by omega, f1, hg1, hb1⟩
  case round =>
    obtain ⟨k, rfl, hk, f, hg, hb⟩ := hrel
    by_cases hlt : k < xs.length
    · obtain ⟨b, off, rfl, hbl, c0⟩ := h.at hb k hlt
      have hlt' : (k : Int) < (xs.length : Int) := by omega
      obtain ⟨⟨z0, e0⟩, u0⟩ := f.any k hlt
      have hp := f.put hlt (Nat.le_refl _)
      obtain ⟨x, hx⟩ : ∃ x, xs[k] = x := ⟨_, rfl⟩
      rw [hx] at c0 hp
      have HP : Hid (IFill (wr.setCell ⟨w.heap.size, k, none⟩ (.int .i64 x)) w.heap.size xs.length xs (k + 1)) := hp
      clear hx hp
      go_wp2
      exact ⟨⟨k + 1, by go_num, by omega, HP.out, by simp; omega, hb.setCell (Nat.le_refl _) _⟩, by simp [intOf]; omega⟩
    · have e : k = xs.length := by omega
      subst e
      go_wp2
      go_ret
      exact ⟨_, rfl, Nat.le_refl _, hg, f, hb⟩
end Go.Proofs.Ytibfclfidaofkas
namespace Go.Proofs.Ytibfclfidaofkas
open Go.ChangeShapes Go.WideShapes Go.ChangeAt Go.RowKit
set_option maxRecDepth 100000
set_option linter.unusedVariables false
set_option linter.unusedSimpArgs false

theorem cells_three {w : World} {g : Nat} {a b c : Value} (h0 : w.cell? ⟨g, 0, none⟩ = some a) (h1 : w.cell? ⟨g, 1, none⟩ = some b) (h2 : w.cell? ⟨g, 2, none⟩ = some c) : ∀ j v, [a, b, c][j]? = some v → w.cell? ⟨g, j, none⟩ = some v := by
  intro j v hv
  match j, hv with
  | 0, hv => obtain rfl : a = v := by simpa using hv
             exact h0
  | 1, hv => obtain rfl : b = v := by simpa using hv
             exact h1
  | 2, hv => obtain rfl : c = v := by simpa using hv
             exact h2
theorem put3_zero {w : World} {g : Nat} (a b c : Value) {z0 z1 z2 : Value} (h0 : w.cell? ⟨g, 0, none⟩ = some z0) (h1 : w.cell? ⟨g, 1, none⟩ = some z1) (h2 : w.cell? ⟨g, 2, none⟩ = some z2) :
    ∀ j v, [a, b, c][j]? = some v → (((w.setCell ⟨g, 0, none⟩ a).setCell ⟨g, 1, none⟩ b).setCell ⟨g, 2, none⟩ c).cell? ⟨g, j, none⟩ = some v := by
  have h := put3_same (o := 0) a b c h0 h1 h2
  exact cells_three h.1 h.2.1 h.2.2
theorem IFill.far {w : World} {g n k : Nat} {xs : List Int} (f : IFill w g n xs k) {p : Addr} (v : Value) (h : p.block ≠ g) : IFill (w.setCell p v) g n xs k where
  any := fun j hj => ⟨by obtain ⟨z, hz⟩ := (f.any j hj).1; exact ⟨z, (set_far (by exact h)).trans hz⟩, by simpa using (f.any j hj).2⟩
  got := fun i hi hk => (set_far (by exact h)).trans (f.got i hi hk)
theorem el_at {g o n c b : Nat} (h : elB (.slice (some ⟨g, o, none⟩) n c) = some b) : b = g := by
  cases n with
  | zero => cases h
  | succ n => exact (Option.some.inj h).symm
end Go.Proofs.Ytibfclfidaofkas
namespace Go.Proofs.Ytibfclfidaofkas
open Go.ChangeShapes Go.WideShapes Go.ChangeAt Go.RowKit
set_option maxRecDepth 100000
set_option linter.unusedVariables false
set_option linter.unusedSimpArgs false

theorem retB {f g : Bool} (h : f = g) : Ending.returned (.bool f) = .returned (.bool g) := by rw [h]
end Go.Proofs.Ytibfclfidaofkas
namespace Go.Proofs.Ytibfclfidaofkas
open Go.ChangeShapes Go.WideShapes Go.ChangeAt Go.RowKit
set_option maxRecDepth 100000
set_option linter.unusedVariables false
set_option linter.unusedSimpArgs false

/-- Numbers from a place of a block on. -/
structure OFill (w : World) (g off n : Nat) (xs : List Int) (k : Nat) : Prop where
  any : ∀ j, j < n → (∃ z : Int, w.cell? ⟨g, off + j, none⟩ = some (.int .i64 z)) ∧ w.frozen? ⟨g, off + j, none⟩ = false
  got : ∀ i (h : i < xs.length), i < k → w.cell? ⟨g, off + i, none⟩ = some (.int .i64 xs[i])
theorem OFill.again {w : World} {g off n m : Nat} {xs : List Int} (f : OFill w g off n xs m) (ys : List Int) : OFill w g off n ys 0 := ⟨f.any, fun i hi hk => by omega⟩
theorem OFill.put {w : World} {g off n k : Nat} {xs : List Int} (f : OFill w g off n xs k) (hk : k < xs.length) (hn : xs.length ≤ n) : OFill (w.setCell ⟨g, off + k, none⟩ (.int .i64 xs[k])) g off n xs (k + 1) where
  any := fun j hj => by
    refine ⟨?_, by simpa using (f.any j hj).2⟩
    obtain ⟨z, hz⟩ := (f.any j hj).1
    by_cases e : k = j
    · subst e
      exact ⟨_, set_same _ hz⟩
    · exact ⟨z, (set_other (by omega)).trans hz⟩
  got := fun i hi hik => by
    by_cases e : k = i
    · subst e
      obtain ⟨z, hz⟩ := (f.any k (by omega)).1
      exact set_same _ hz
    · exact (set_other (by omega)).trans (f.got i hi (by omega))
set_option maxHeartbeats 1000000 in
theorem markOff_any {w : World} {g off n m : Nat} (cap : Nat) {xs : List Int} (k : Int) (f : OFill w g off n xs m) (hg : g < w.heap.size) (hn : n ≤ 1048576) (k0 : 0 ≤ k) (k1 : k ≤ 1000000000) :
    Calls Try.prog 86 #[.slice (some ⟨g, off, none⟩) n cap, .int .i64 k] w fun e w' => e = .returned (.int .i64 (k + n)) ∧ OFill w' g off n (marksI k n) n ∧ Only g w w' := by
  go_enter Try.func86, Try.ntmps86
  go_wp2
  go_loopw [1, 5] (fun s i wr => ∃ j : Nat, i = .int .i64 j ∧ j ≤ n ∧ s = .int .i64 (k + (j : Int)) ∧ OFill wr g off n (marksI k n) j ∧ Only g w wr) (fun _ i _ => n - (intOf i).toNat)
  case atStart => exact ⟨0, rfl, by omega, by simp, f.again _, Only.refl _ _⟩
  case round =>
    obtain ⟨j, rfl, hj, rfl, fr, hO⟩ := hrel
    by_cases hlt : j < n
    · obtain ⟨⟨z0, e0⟩, u0⟩ := fr.any j hlt
      have hlt' : (j : Int) < (n : Int) := by omega
      have hp := fr.put (k := j) (by rw [marksI_length]; exact hlt) (by rw [marksI_length]; omega)
      rw [marksI_get] at hp
      have HP : Hid (OFill (wr.setCell ⟨g, off + j, none⟩ (.int .i64 (k + (j : Int)))) g off n (marksI k n) (j + 1)) := hp
      clear hp
      go_wp2
      exact ⟨⟨j + 1, by go_num, by omega, ret_v (by omega), HP.out, hO.setCell rfl _⟩, by simp [intOf]; omega⟩
    · have e : j = n := by omega
      subst e
      go_wp2
      go_ret
      exact ⟨rfl, fr, hO⟩
set_option maxHeartbeats 1000000 in
theorem heldOff_any {w : World} {g off n : Nat} (cap : Nat) (k : Int) (f : OFill w g off n (marksI k n) n) (hn : n ≤ 1048576) (k0 : 0 ≤ k) (k1 : k ≤ 1000000000) :
    Calls Try.prog 89 #[.slice (some ⟨g, off, none⟩) n cap, .int .i64 k] w fun e w' => e = .returned (.int .i64 (k + n)) ∧ w' = w := by
  go_enter Try.func89, Try.ntmps89
  go_wp2
  go_loop [1, 5] (fun s i => ∃ j : Nat, i = .int .i64 j ∧ j ≤ n ∧ s = .int .i64 (k + (j : Int))) (fun _ i => n - (intOf i).toNat)
  case atStart => exact ⟨0, rfl, by omega, by simp⟩
  case round =>
    obtain ⟨j, rfl, hj, rfl⟩ := hrel
    by_cases hlt : j < n
    · have c0 := f.got j (by rw [marksI_length]; exact hlt) hlt
      rw [marksI_get] at c0
      have hlt' : (j : Int) < (n : Int) := by omega
      go_wp2
      go_round
      case rel => exact ⟨j + 1, by go_num, by omega, ret_v (by omega)⟩
      case measure => first | (simp [intOf]; done) | (simp [intOf]; omega)
    · have e : j = n := by omega
      subst e
      go_wp2
      go_ret
      exact ⟨rfl, rfl⟩
theorem markNil_any (a : Option Addr) (cap : Nat) (k : Int) (w : World) (k0 : 0 ≤ k) (k1 : k ≤ 1000000000) : Calls Try.prog 86 #[.slice a 0 cap, .int .i64 k] w fun e w' => e = .returned (.int .i64 k) ∧ w' = w := by
  go_enter Try.func86, Try.ntmps86
  go_wp2
  refine wp_loop_rounds 1 ?_
  rw [rounds_succ]
  go_wp2
  go_ret
  exact ⟨rfl, rfl⟩
theorem heldNil_any (a : Option Addr) (cap : Nat) (k : Int) (w : World) (k0 : 0 ≤ k) (k1 : k ≤ 1000000000) : Calls Try.prog 89 #[.slice a 0 cap, .int .i64 k] w fun e w' => e = .returned (.int .i64 k) ∧ w' = w := by
  go_enter Try.func89, Try.ntmps89
  go_wp2
  refine wp_loop_rounds 1 ?_
  rw [rounds_succ]
  go_wp2
  go_ret
  exact ⟨rfl, rfl⟩
theorem markIO_any {w : World} {lo hi : Nat} {v : Value} {xs : List Int} (k : Int) (h : IO w lo hi v xs) (hn : xs.length ≤ 1048576) (k0 : 0 ≤ k) (k1 : k ≤ 1000000000) :
    Calls Try.prog 86 #[v, .int .i64 k] w fun e w' => e = .returned (.int .i64 (k + xs.length)) ∧ IO w' lo hi v (marksI k xs.length) ∧ OnlyO (elB v) w w' := by
  obtain ⟨a, cap, rfl, hc, h⟩ := h
  by_cases h0 : xs = []
  · subst h0
    refine (markNil_any a cap k w k0 k1).mono ?_
    rintro e w' ⟨rfl, rfl⟩
    exact ⟨by simp, ⟨a, cap, rfl, hc, .inl rfl⟩, OnlyO.of_below (Below.refl _ _)⟩
  · rcases h with h | ⟨g, off, rfl, h1, h2, h3, h4⟩
    · exact absurd h h0
    · refine (markOff_any cap k (xs := xs) (m := xs.length) ⟨fun j hj => ⟨⟨_, (h4 j hj).1⟩, (h4 j hj).2⟩, fun i hi _ => (h4 i hi).1⟩ h3 hn k0 k1).mono ?_
      rintro e w' ⟨rfl, f', ho⟩
      have eb : elB (.slice (some ⟨g, off, none⟩) xs.length cap) = some g := by
        cases xs with
        | nil => exact absurd rfl h0
        | cons x r => rfl
      refine ⟨rfl, ⟨_, cap, by rw [marksI_length], by rw [marksI_length]; exact hc, .inr ⟨g, off, rfl, h1, h2, Nat.lt_of_lt_of_le h3 ho.size, fun i hi => ⟨f'.got i hi (by rw [marksI_length] at hi; exact hi), (f'.any i (by rw [marksI_length] at hi; exact hi)).2⟩⟩⟩, ?_⟩
      rw [eb]
      exact OnlyO.of_only ho
theorem heldIO_any {w : World} {lo hi n : Nat} {v : Value} (k : Int) (h : IO w lo hi v (marksI k n)) (hn : n ≤ 1048576) (k0 : 0 ≤ k) (k1 : k ≤ 1000000000) :
    Calls Try.prog 89 #[v, .int .i64 k] w fun e w' => e = .returned (.int .i64 (k + n)) ∧ w' = w := by
  obtain ⟨a, cap, rfl, hc, h⟩ := h
  rw [marksI_length]
  rcases h with h | ⟨g, off, rfl, h1, h2, h3, h4⟩
  · have hn0 : n = 0 := by rw [← marksI_length k n, h]; rfl
    subst hn0
    refine (heldNil_any a cap k w k0 k1).mono ?_
    rintro e w' ⟨rfl, rfl⟩
    exact ⟨by simp, rfl⟩
  · exact heldOff_any cap k ⟨fun j hj => ⟨⟨_, (h4 j (by rw [marksI_length]; exact hj)).1⟩, (h4 j (by rw [marksI_length]; exact hj)).2⟩, fun i hi _ => (h4 i hi).1⟩ hn k0 k1
/-! Flows -/
def kAt (k : Int) (fs : List F8) (i : Nat) : Int := k + 2 * (i : Int) + (sumL fs i : Int)
def markF (k : Int) (fs : List F8) : List F8 := fs.mapIdx fun i f => (kAt k fs i, kAt k fs i + 1, marksI (kAt k fs i + 2) f.2.2.length)
theorem markF_length (k : Int) (fs : List F8) : (markF k fs).length = fs.length := by simp [markF]
theorem markF_get (k : Int) (fs : List F8) (i : Nat) (h : i < (markF k fs).length) (h' : i < fs.length) : (markF k fs)[i] = (kAt k fs i, kAt k fs i + 1, marksI (kAt k fs i + 2) fs[i].2.2.length) := by simp [markF]
theorem kAt_next {k : Int} {fs : List F8} {i : Nat} (h : i < fs.length) : kAt k fs (i + 1) = kAt k fs i + 2 + (fs[i].2.2.length : Int) := by
  unfold kAt
  rw [sumL_next h]
  omega
/-- The first i of A, then the others of B. -/
def mix (A B : List F8) (i : Nat) : List F8 := A.take i ++ B.drop i
theorem mix_length {A B : List F8} (h : A.length = B.length) {i : Nat} (hi : i ≤ B.length) : (mix A B i).length = B.length := by
  unfold mix
  rw [List.length_append, List.length_take, List.length_drop]
  omega
theorem mix_zero (A B : List F8) : mix A B 0 = B := by simp [mix]
theorem mix_all {A B : List F8} (h : A.length = B.length) : mix A B B.length = A := by
  unfold mix
  rw [List.take_of_length_le (by omega), List.drop_eq_nil_of_le (Nat.le_refl _), List.append_nil]
theorem mix_at {A B : List F8} (h : A.length = B.length) {i : Nat} (hi : i < B.length) (h' : i < (mix A B i).length) : (mix A B i)[i] = B[i] := by
  have e : (mix A B i)[i]? = B[i]? := by
    unfold mix
    rw [List.getElem?_append_right (by rw [List.length_take]; omega), List.getElem?_drop]
    congr 1
    rw [List.length_take]
    omega
  rw [List.getElem?_eq_getElem h', List.getElem?_eq_getElem hi] at e
  exact Option.some.inj e
theorem mix_set {A B : List F8} (h : A.length = B.length) {i : Nat} (hi : i < B.length) (ha : i < A.length) : (mix A B i).set i A[i] = mix A B (i + 1) := by
  unfold mix
  rw [List.set_append_right _ _ (by rw [List.length_take]; omega), List.drop_eq_getElem_cons hi, List.take_succ_eq_append_getElem ha, List.append_assoc]
  congr 1
  rw [show i - (A.take i).length = 0 by rw [List.length_take]; omega]
  rfl
end Go.Proofs.Ytibfclfidaofkas
namespace Go.Proofs.Ytibfclfidaofkas
open Go.ChangeShapes Go.WideShapes Go.ChangeAt Go.RowKit
set_option maxRecDepth 100000
set_option linter.unusedVariables false
set_option linter.unusedSimpArgs false

end Go.Proofs.Ytibfclfidaofkas
namespace Go.Proofs.Ytibfclfidaofkas
open Go.ChangeShapes Go.WideShapes Go.ChangeAt Go.RowKit
set_option maxRecDepth 100000
set_option linter.unusedVariables false
set_option linter.unusedSimpArgs false

end Go.Proofs.Ytibfclfidaofkas
namespace Go.Proofs.Ytibfclfidaofkas
open Go.ChangeShapes Go.WideShapes Go.ChangeAt Go.RowKit
set_option maxRecDepth 100000
set_option linter.unusedVariables false
set_option linter.unusedSimpArgs false

theorem kAt_nil (k : Int) : kAt k [] 0 = k := by show k + 2 * (0 : Int) + (0 : Int) = k; omega
theorem kAt_pos {k : Int} {fs : List F8} (k0 : 0 ≤ k) (i : Nat) : 0 ≤ kAt k fs i := by unfold kAt; omega
end Go.Proofs.Ytibfclfidaofkas
