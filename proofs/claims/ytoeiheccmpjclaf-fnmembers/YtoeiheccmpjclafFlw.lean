/- Flows: lists of two numbers and a list of numbers: as they can be read, and as they are owned, in blocks from lo up to hi. -/
import Derived.Test.YtoeiheccmpjclafGrpE
import Derived.Test.YtoeiheccmpjclafGrpC
namespace Go.Proofs.Ytoeiheccmpjclaf
open Go.ChangeShapes Go.WideShapes Go.ChangeAt Go.RowKit
set_option maxRecDepth 100000
set_option linter.unusedVariables false

/-- Only blocks from lo up to hi have turned, of those that were there. -/
structure OnlyI (lo hi : Nat) (w w' : World) : Prop where
  os : w'.os = w.os
  tape : w'.tape = w.tape
  output : w'.output = w.output
  size : w.heap.size ≤ w'.heap.size
  block : ∀ k, k < w.heap.size → (k < lo ∨ hi ≤ k) → w'.heap[k]? = w.heap[k]?
theorem OnlyI.refl (lo hi : Nat) (w : World) : OnlyI lo hi w w := ⟨rfl, rfl, rfl, Nat.le_refl _, fun _ _ _ => rfl⟩
theorem OnlyI.trans {lo hi : Nat} {u v w : World} (h : OnlyI lo hi u v) (k : OnlyI lo hi v w) : OnlyI lo hi u w :=
  ⟨k.os.trans h.os, k.tape.trans h.tape, k.output.trans h.output, Nat.le_trans h.size k.size, fun b hb hn => (k.block b (Nat.lt_of_lt_of_le hb h.size) hn).trans (h.block b hb hn)⟩
theorem OnlyI.of_below {lo hi : Nat} {w w' : World} (h : Below w.heap.size w w') : OnlyI lo hi w w' := ⟨h.os, h.tape, h.output, h.size, fun k hk _ => h.block k hk⟩
theorem OnlyI.below {lo hi B : Nat} {w w' : World} (h : OnlyI lo hi w w') (hl : B ≤ lo) (hB : B ≤ w.heap.size) : Below B w w' :=
  ⟨h.os, h.tape, h.output, h.size, fun k hk => h.block k (by omega) (by omega)⟩
theorem OnlyI.ofO {lo hi : Nat} {o : Option Nat} {w w' : World} (h : OnlyO o w w') (ho : ∀ g, o = some g → lo ≤ g ∧ g < hi) : OnlyI lo hi w w' :=
  ⟨h.os, h.tape, h.output, h.size, fun k hk hn => h.block k hk (fun e => by have := ho k e; omega)⟩
theorem OnlyI.wider {lo hi lo' hi' : Nat} {w w' : World} (h : OnlyI lo hi w w') (h1 : lo' ≤ lo) (h2 : hi ≤ hi') : OnlyI lo' hi' w w' := ⟨h.os, h.tape, h.output, h.size, fun k hk hn => h.block k hk (by omega)⟩
theorem OnlyI.cell {lo hi : Nat} {w w' : World} (h : OnlyI lo hi w w') {p : Addr} (hp : p.block < w.heap.size) (hn : p.block < lo ∨ hi ≤ p.block) : w'.cell? p = w.cell? p := World.cell?_of_block (w := w) (h.block p.block hp hn)
theorem OnlyI.frozen {lo hi : Nat} {w w' : World} (h : OnlyI lo hi w w') {p : Addr} (hp : p.block < w.heap.size) (hn : p.block < lo ∨ hi ≤ p.block) : w'.frozen? p = w.frozen? p := World.frozen?_of_block (w := w) (h.block p.block hp hn)
theorem OnlyI.setCell {lo hi : Nat} {w w' : World} (h : OnlyI lo hi w w') {b i : Nat} (h1 : lo ≤ b) (h2 : b < hi) (v : Value) : OnlyI lo hi w (w'.setCell ⟨b, i, none⟩ v) :=
  h.trans ⟨rfl, rfl, rfl, by simp, fun k _ hn => Below.heap_setCell _ _ _ _ (by show k ≠ b; omega)⟩
theorem Cells.onlyI {lo hi : Nat} {w w' : World} (ho : OnlyI lo hi w w') : ∀ {cs : List (Nat × Nat × Value)}, (∀ c ∈ cs, c.1 < lo ∨ hi ≤ c.1) → Cells w cs → Cells w' cs
  | [], _, _ => trivial
  | (b, o, v) :: r, h, ⟨⟨h1, h2⟩, h3⟩ => ⟨⟨Nat.lt_of_lt_of_le h1 ho.size, (ho.cell (p := ⟨b, o, none⟩) h1 (h (b, o, v) (List.mem_cons_self ..))).trans h2⟩, Cells.onlyI ho (fun c hc => h c (List.mem_cons_of_mem _ hc)) h3⟩

theorem newB (w : World) (o : Obj) : Below w.heap.size w (w.alloc o) := (Below.refl _ _).alloc (Nat.le_refl _) _
/-! Reading -/
abbrev F8 := Int × Int × List Int
theorem ISmp.mono {B : Nat} {w w' : World} {a : Option Addr} {xs : List Int} (h : ISmp B w a xs) (hb : Below B w w') : ISmp B w' a xs := fun i hi => h.at hb i hi
theorem ISmp.up {B B' : Nat} {w : World} {a : Option Addr} {xs : List Int} (h : ISmp B w a xs) (hb : B ≤ B') : ISmp B' w a xs := fun i hi => by
  obtain ⟨b, off, e, hl, c⟩ := h i hi
  exact ⟨b, off, e, Nat.lt_of_lt_of_le hl hb, c⟩
theorem ISmp.here {w x : World} {a : Option Addr} {xs : List Int} (h : ISmp w.heap.size w a xs) (hb : Below w.heap.size w x) : ISmp x.heap.size x a xs := (h.mono hb).up hb.size
/-- Flows that can be read: cells of old memory. -/
def Fls (B : Nat) (w : World) (a : Option Addr) (fs : List F8) : Prop :=
  ∀ i (h : i < fs.length), ∃ b off sa sc, a = some ⟨b, off, none⟩ ∧ b < B ∧ w.cell? ⟨b, off + i * 3, none⟩ = some (.int .i64 fs[i].1) ∧ w.cell? ⟨b, off + i * 3 + 1, none⟩ = some (.int .i64 fs[i].2.1) ∧ w.cell? ⟨b, off + i * 3 + 2, none⟩ = some (.slice sa fs[i].2.2.length sc) ∧ ISmp B w sa fs[i].2.2
theorem Fls.nil (B : Nat) (w : World) (a : Option Addr) : Fls B w a [] := fun i h => by cases h
theorem Fls.mono {B : Nat} {w w' : World} {a : Option Addr} {fs : List F8} (h : Fls B w a fs) (hb : Below B w w') : Fls B w' a fs := fun i hi => by
  obtain ⟨b, off, sa, sc, e, hl, c0, c1, c2, s⟩ := h i hi
  exact ⟨b, off, sa, sc, e, hl, (hb.cell (by exact hl)).trans c0, (hb.cell (by exact hl)).trans c1, (hb.cell (by exact hl)).trans c2, s.mono hb⟩
theorem Fls.up {B B' : Nat} {w : World} {a : Option Addr} {fs : List F8} (h : Fls B w a fs) (hb : B ≤ B') : Fls B' w a fs := fun i hi => by
  obtain ⟨b, off, sa, sc, e, hl, c0, c1, c2, s⟩ := h i hi
  exact ⟨b, off, sa, sc, e, Nat.lt_of_lt_of_le hl hb, c0, c1, c2, s.up hb⟩
theorem Fls.here {w x : World} {a : Option Addr} {fs : List F8} (h : Fls w.heap.size w a fs) (hb : Below w.heap.size w x) : Fls x.heap.size x a fs := (h.mono hb).up hb.size
theorem Fls.at {B : Nat} {w : World} {a : Option Addr} {fs : List F8} (h : Fls B w a fs) {w' : World} (hb : Below B w w') (i : Nat) (hi : i < fs.length) :
    ∃ b off sa sc, a = some ⟨b, off, none⟩ ∧ b < B ∧ w'.cell? ⟨b, off + i * 3, none⟩ = some (.int .i64 fs[i].1) ∧ w'.cell? ⟨b, off + i * 3 + 1, none⟩ = some (.int .i64 fs[i].2.1) ∧ w'.cell? ⟨b, off + i * 3 + 2, none⟩ = some (.slice sa fs[i].2.2.length sc) ∧ ISmp B w' sa fs[i].2.2 := h.mono hb i hi

/-! Owning -/
/-- The block whose items a list has. -/
def elB : Value → Option Nat
  | .slice (some a) (_ + 1) _ => some a.block
  | _ => none
/-- v is the list xs of numbers; its items lie in a block from lo up to hi and may be written. -/
def IO (w : World) (lo hi : Nat) (v : Value) (xs : List Int) : Prop :=
  ∃ a cap, v = .slice a xs.length cap ∧ xs.length ≤ cap ∧ (xs = [] ∨ ∃ g off, a = some ⟨g, off, none⟩ ∧ lo ≤ g ∧ g < hi ∧ g < w.heap.size ∧ ∀ i (h : i < xs.length), w.cell? ⟨g, off + i, none⟩ = some (.int .i64 xs[i]) ∧ w.frozen? ⟨g, off + i, none⟩ = false)
theorem IO.el {w : World} {lo hi : Nat} {v : Value} {xs : List Int} (h : IO w lo hi v xs) {b : Nat} (hb : elB v = some b) : lo ≤ b ∧ b < hi ∧ b < w.heap.size := by
  obtain ⟨a, cap, rfl, _, h⟩ := h
  rcases h with rfl | ⟨g, off, rfl, h1, h2, h3, _⟩
  · cases a <;> cases hb
  · cases hn : xs.length with
    | zero => rw [hn] at hb; cases hb
    | succ n =>
      rw [hn] at hb
      have e : g = b := Option.some.inj hb
      subst e
      exact ⟨h1, h2, h3⟩
theorem el_nil (a : Option Addr) (cap : Nat) : elB (.slice a 0 cap) = none := by cases a <;> rfl
theorem IO.smp {w : World} {lo hi : Nat} {v : Value} {xs : List Int} (h : IO w lo hi v xs) : ∃ a cap, v = .slice a xs.length cap ∧ xs.length ≤ cap ∧ ISmp w.heap.size w a xs := by
  obtain ⟨a, cap, rfl, hc, h⟩ := h
  rcases h with rfl | ⟨g, off, rfl, h1, h2, h3, h4⟩
  · exact ⟨a, cap, rfl, hc, ismp_nil _ _ _⟩
  · exact ⟨_, _, rfl, hc, fun i hi => ⟨g, off, rfl, h3, (h4 i hi).1⟩⟩
/-- Nothing of its block has turned. -/
theorem IO.same {w w' : World} {lo hi : Nat} {v : Value} {xs : List Int} (h : IO w lo hi v xs) (hs : w.heap.size ≤ w'.heap.size) (hb : ∀ b, elB v = some b → w'.heap[b]? = w.heap[b]?) : IO w' lo hi v xs := by
  obtain ⟨a, cap, rfl, hc, h⟩ := h
  refine ⟨a, cap, rfl, hc, ?_⟩
  rcases h with rfl | ⟨g, off, rfl, h1, h2, h3, h4⟩
  · exact .inl rfl
  · cases hn : xs with
    | nil => exact .inl rfl
    | cons x r =>
      rw [← hn]
      have e := hb g (by rw [hn]; rfl)
      exact .inr ⟨g, off, rfl, h1, h2, Nat.lt_of_lt_of_le h3 hs, fun i hi => ⟨(World.cell?_of_block (a := ⟨g, off + i, none⟩) e).trans (h4 i hi).1, (World.frozen?_of_block (a := ⟨g, off + i, none⟩) e).trans (h4 i hi).2⟩⟩
theorem IO.wider {w : World} {lo hi lo' hi' : Nat} {v : Value} {xs : List Int} (h : IO w lo hi v xs) (h1 : lo' ≤ lo) (h2 : hi ≤ hi') : IO w lo' hi' v xs := by
  obtain ⟨a, cap, rfl, hc, h⟩ := h
  refine ⟨a, cap, rfl, hc, ?_⟩
  rcases h with rfl | ⟨g, off, rfl, k1, k2, h3⟩
  · exact .inl rfl
  · exact .inr ⟨g, off, rfl, by omega, by omega, h3⟩
theorem IV.io {w : World} {lo : Nat} {v : Value} {xs : List Int} (h : IV w lo v xs) : IO w lo w.heap.size v xs := by
  rcases h with ⟨g, cap, rfl, h1, h2, f, hc⟩ | ⟨rfl, rfl⟩
  · exact ⟨_, cap, rfl, hc, .inr ⟨g, 0, rfl, h1, h2, h2, fun i hi => by rw [Nat.zero_add]; exact ⟨f.got i hi hi, (f.any i hi).2⟩⟩⟩
  · exact ⟨none, 0, rfl, Nat.le_refl _, .inl rfl⟩
/-- Block g has room for n flows; the first ones are fs, their lists lie in vs. -/
structure FO (w : World) (lo hi g n : Nat) (vs : List Value) (fs : List F8) : Prop where
  g0 : lo ≤ g
  g1 : g < hi
  top : hi ≤ w.heap.size
  len : vs.length = fs.length
  le : fs.length ≤ n
  any : ∀ j, j < n * 3 → (∃ z, w.cell? ⟨g, j, none⟩ = some z) ∧ w.frozen? ⟨g, j, none⟩ = false
  got : ∀ i (h : i < fs.length) (h' : i < vs.length), w.cell? ⟨g, i * 3, none⟩ = some (.int .i64 fs[i].1) ∧ w.cell? ⟨g, i * 3 + 1, none⟩ = some (.int .i64 fs[i].2.1) ∧ w.cell? ⟨g, i * 3 + 2, none⟩ = some vs[i]
  own : ∀ i (h : i < fs.length) (h' : i < vs.length), IO w lo hi vs[i] fs[i].2.2
  far : ∀ i (h' : i < vs.length), elB vs[i] ≠ some g
  apart : ∀ i j (h : i < vs.length) (h' : j < vs.length), i ≠ j → ∀ b, elB vs[i] = some b → elB vs[j] ≠ some b
theorem FO.same {w w' : World} {lo hi g n : Nat} {vs : List Value} {fs : List F8} (h : FO w lo hi g n vs fs) (hs : w.heap.size ≤ w'.heap.size) (hb : ∀ b, lo ≤ b → b < hi → w'.heap[b]? = w.heap[b]?) : FO w' lo hi g n vs fs := by
  have eg := hb g h.g0 h.g1
  refine ⟨h.g0, h.g1, Nat.le_trans h.top hs, h.len, h.le, fun j hj => ?_, fun i hi' h' => ?_, fun i hi' h' => ?_, h.far, h.apart⟩
  · obtain ⟨⟨z, hz⟩, hf⟩ := h.any j hj
    exact ⟨⟨z, (World.cell?_of_block (a := ⟨g, j, none⟩) eg).trans hz⟩, (World.frozen?_of_block (a := ⟨g, j, none⟩) eg).trans hf⟩
  · obtain ⟨c0, c1, c2⟩ := h.got i hi' h'
    exact ⟨(World.cell?_of_block (a := ⟨g, i * 3, none⟩) eg).trans c0, (World.cell?_of_block (a := ⟨g, i * 3 + 1, none⟩) eg).trans c1, (World.cell?_of_block (a := ⟨g, i * 3 + 2, none⟩) eg).trans c2⟩
  · have o := h.own i hi' h'
    exact o.same hs (fun b e => hb b (o.el e).1 (o.el e).2.1)
theorem FO.next {w w' : World} {lo hi g n : Nat} {vs : List Value} {fs : List F8} (h : FO w lo hi g n vs fs) (hb : Below w.heap.size w w') : FO w' lo hi g n vs fs :=
  h.same hb.size (fun b _ h2 => hb.block b (Nat.lt_of_lt_of_le h2 h.top))
theorem FO.wider {w : World} {lo hi lo' hi' g n : Nat} {vs : List Value} {fs : List F8} (h : FO w lo hi g n vs fs) (h1 : lo' ≤ lo) (h2 : hi ≤ hi') (h3 : hi' ≤ w.heap.size) : FO w lo' hi' g n vs fs :=
  ⟨Nat.le_trans h1 h.g0, Nat.lt_of_lt_of_le h.g1 h2, h3, h.len, h.le, h.any, h.got, fun i hi' h' => (h.own i hi' h').wider h1 h2, h.far, h.apart⟩
theorem FO.fls {w : World} {lo hi g n : Nat} {vs : List Value} {fs : List F8} (h : FO w lo hi g n vs fs) : Fls w.heap.size w (some ⟨g, 0, none⟩) fs := fun i hi' => by
  have h' : i < vs.length := by rw [h.len]; exact hi'
  obtain ⟨c0, c1, c2⟩ := h.got i hi' h'
  obtain ⟨a, cap, e, _, s⟩ := (h.own i hi' h').smp
  rw [e] at c2
  have := h.g1
  have := h.top
  exact ⟨g, 0, a, cap, rfl, by omega, by rw [Nat.zero_add]; exact c0, by rw [Nat.zero_add]; exact c1, by rw [Nat.zero_add]; exact c2, s⟩
/-- v is the list fs of flows; all that it has lies in blocks from lo up to hi and may be written; no block serves twice. -/
def TV (w : World) (lo hi : Nat) (v : Value) (fs : List F8) : Prop :=
  (∃ g cap vs, v = .slice (some ⟨g, 0, none⟩) fs.length cap ∧ fs.length ≤ cap ∧ FO w lo hi g fs.length vs fs) ∨ (fs = [] ∧ ∃ a c, v = .slice a 0 c)
theorem TV.zero (w : World) (lo hi : Nat) (a : Option Addr) (c : Nat) : TV w lo hi (.slice a 0 c) [] := .inr ⟨rfl, a, c, rfl⟩
theorem TV.same {w w' : World} {lo hi : Nat} {v : Value} {fs : List F8} (h : TV w lo hi v fs) (hs : w.heap.size ≤ w'.heap.size) (hb : ∀ b, lo ≤ b → b < hi → b < w.heap.size → w'.heap[b]? = w.heap[b]?) : TV w' lo hi v fs := by
  rcases h with ⟨g, cap, vs, e, hc, f⟩ | h
  · exact .inl ⟨g, cap, vs, e, hc, f.same hs (fun b h1 h2 => hb b h1 h2 (Nat.lt_of_lt_of_le h2 f.top))⟩
  · exact .inr h
theorem TV.next {w w' : World} {lo hi : Nat} {v : Value} {fs : List F8} (h : TV w lo hi v fs) (hb : Below w.heap.size w w') : TV w' lo hi v fs := h.same hb.size (fun b _ _ h3 => hb.block b h3)
theorem TV.onlyI {w w' : World} {lo hi lo' hi' : Nat} {v : Value} {fs : List F8} (h : TV w lo hi v fs) (hb : OnlyI lo' hi' w w') (hd : hi ≤ lo' ∨ hi' ≤ lo) : TV w' lo hi v fs := h.same hb.size (fun b h1 h2 h3 => hb.block b h3 (by omega))
theorem TV.wider {w : World} {lo hi lo' hi' : Nat} {v : Value} {fs : List F8} (h : TV w lo hi v fs) (h1 : lo' ≤ lo) (h2 : hi ≤ hi') (h3 : hi' ≤ w.heap.size) : TV w lo' hi' v fs := by
  rcases h with ⟨g, cap, vs, e, hc, f⟩ | h
  · exact .inl ⟨g, cap, vs, e, hc, f.wider h1 h2 h3⟩
  · exact .inr h
theorem TV.fls {w : World} {lo hi n c : Nat} {a : Option Addr} {fs : List F8} (h : TV w lo hi (.slice a n c) fs) : n = fs.length ∧ Fls w.heap.size w a fs := by
  rcases h with ⟨g, cap, vs, e, hc, f⟩ | ⟨rfl, a', c', e⟩
  · injection e with e1 e2 e3
    subst e1 e2
    exact ⟨rfl, f.fls⟩
  · injection e with e1 e2 e3
    exact ⟨e2, Fls.nil _ _ _⟩
theorem TV.slice {w : World} {lo hi : Nat} {v : Value} {fs : List F8} (h : TV w lo hi v fs) : ∃ a c, v = .slice a fs.length c := by
  rcases h with ⟨g, cap, vs, e, hc, f⟩ | ⟨rfl, a', c', e⟩
  · exact ⟨_, _, e⟩
  · exact ⟨_, _, e⟩
abbrev turnV (a : Option Addr) (n c : Nat) (at' : Int) (fresh : Bool) : Value := .agg #[.slice a n c, .int .i64 at', .bool fresh]
end Go.Proofs.Ytoeiheccmpjclaf
