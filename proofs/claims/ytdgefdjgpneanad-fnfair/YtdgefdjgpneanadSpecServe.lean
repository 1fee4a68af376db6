/- What spec.l8Serve answers: the turns of a round, in the Turns themselves. -/
import Derived.Test.YtdgefdjgpneanadServeMath
import Derived.Test.YtdgefdjgpneanadFlwApp
import Derived.Test.YtdgefdjgpneanadFlwPut
import Derived.Test.YtdgefdjgpneanadLate
import Derived.Deep.LoopGhost
import Derived.Deep.RegionHeld3
import Derived.Deep.DeepCutAuto
namespace Go.Proofs.Ytdgefdjgpneanad
open Go.ChangeShapes Go.WideShapes Go.ChangeAt Go.RowKit
set_option maxRecDepth 100000
set_option linter.unusedVariables false
set_option linter.unusedSimpArgs false

/-- Only two blocks have turned. -/
structure Only2 (a b : Nat) (w w' : World) : Prop where
  os : w'.os = w.os
  tape : w'.tape = w.tape
  output : w'.output = w.output
  size : w.heap.size ≤ w'.heap.size
  block : ∀ k, k < w.heap.size → k ≠ a → k ≠ b → w'.heap[k]? = w.heap[k]?
theorem Only2.refl (a b : Nat) (w : World) : Only2 a b w w := ⟨rfl, rfl, rfl, Nat.le_refl _, fun _ _ _ _ => rfl⟩
theorem Only2.trans {a b : Nat} {u v w : World} (h : Only2 a b u v) (k : Only2 a b v w) : Only2 a b u w :=
  ⟨k.os.trans h.os, k.tape.trans h.tape, k.output.trans h.output, Nat.le_trans h.size k.size, fun j hj h1 h2 => (k.block j (Nat.lt_of_lt_of_le hj h.size) h1 h2).trans (h.block j hj h1 h2)⟩
theorem Only2.of_only {a b : Nat} {w w' : World} (h : Only b w w') : Only2 a b w w' := ⟨h.os, h.tape, h.output, h.size, fun k hk _ h2 => h.block k hk h2⟩
theorem Only2.of_below {a b : Nat} {w w' : World} (h : Below w.heap.size w w') : Only2 a b w w' := ⟨h.os, h.tape, h.output, h.size, fun k hk _ _ => h.block k hk⟩
theorem Only2.setA {a b i : Nat} {w w' : World} (h : Only2 a b w w') (v : Value) : Only2 a b w (w'.setCell ⟨a, i, none⟩ v) :=
  h.trans ⟨rfl, rfl, rfl, by simp, fun k _ h1 _ => Below.heap_setCell _ _ _ _ (by exact h1)⟩
theorem Only2.setB {a b i : Nat} {w w' : World} (h : Only2 a b w w') (v : Value) : Only2 a b w (w'.setCell ⟨b, i, none⟩ v) :=
  h.trans ⟨rfl, rfl, rfl, by simp, fun k _ _ h2 => Below.heap_setCell _ _ _ _ (by exact h2)⟩
theorem Only2.drew {a b : Nat} {w w' : World} (h : Only2 a b w w') : Only2 a b w w'.drew := ⟨h.os, h.tape, h.output, h.size, h.block⟩
theorem Only2.below {a b B : Nat} {w w' : World} (h : Only2 a b w w') (ha : B ≤ a) (hb : B ≤ b) (hB : B ≤ w.heap.size) : Below B w w' := ⟨h.os, h.tape, h.output, h.size, fun k hk => h.block k (by omega) (by omega) (by omega)⟩
theorem Only2.cell {a b : Nat} {w w' : World} (h : Only2 a b w w') {p : Addr} (hp : p.block < w.heap.size) (h1 : p.block ≠ a) (h2 : p.block ≠ b) : w'.cell? p = w.cell? p := World.cell?_of_block (w := w) (h.block p.block hp h1 h2)
theorem Only2.frozen {a b : Nat} {w w' : World} (h : Only2 a b w w') {p : Addr} (hp : p.block < w.heap.size) (h1 : p.block ≠ a) (h2 : p.block ≠ b) : w'.frozen? p = w.frozen? p := World.frozen?_of_block (w := w) (h.block p.block hp h1 h2)
theorem only_drew {b : Nat} {w w' : World} (h : Only b w w') : Only b w w'.drew := ⟨h.os, h.tape, h.output, h.size, h.block⟩
/-- Nothing of the flows has turned. -/
theorem FO.keep {w w' : World} {lo hi g n : Nat} {vs : List Value} {fs : List F8} (h : FO w lo hi g n vs fs) (hs : w.heap.size ≤ w'.heap.size) (eg : w'.heap[g]? = w.heap[g]?) (hb : ∀ i (h' : i < vs.length) b, elB vs[i] = some b → w'.heap[b]? = w.heap[b]?) : FO w' lo hi g n vs fs := by
  refine ⟨h.g0, h.g1, Nat.le_trans h.top hs, h.len, h.le, fun j hj => ?_, fun i hi' h' => ?_, fun i hi' h' => ?_, h.far, h.apart⟩
  · obtain ⟨⟨z, hz⟩, hf⟩ := h.any j hj
    exact ⟨⟨z, (World.cell?_of_block (a := ⟨g, j, none⟩) eg).trans hz⟩, (World.frozen?_of_block (a := ⟨g, j, none⟩) eg).trans hf⟩
  · obtain ⟨c0, c1, c2⟩ := h.got i hi' h'
    exact ⟨(World.cell?_of_block (a := ⟨g, i * 3, none⟩) eg).trans c0, (World.cell?_of_block (a := ⟨g, i * 3 + 1, none⟩) eg).trans c1, (World.cell?_of_block (a := ⟨g, i * 3 + 2, none⟩) eg).trans c2⟩
  · have o := h.own i hi' h'
    exact o.same hs (fun b e => hb i h' b e)
/-- A block that holds nothing of the flows. -/
def Apart8 (b8 g : Nat) (vs : List Value) : Prop := b8 ≠ g ∧ ∀ i (h : i < vs.length), elB vs[i] ≠ some b8
theorem FO.only8 {w w' : World} {lo hi g n b8 : Nat} {vs : List Value} {fs : List F8} (h : FO w lo hi g n vs fs) (ho : Only b8 w w') (ha : Apart8 b8 g vs) : FO w' lo hi g n vs fs := by
  have g1 := h.g1
  have tp := h.top
  refine h.keep ho.size (ho.block g (by omega) (fun e => ha.1 e.symm)) (fun i h' b e => ?_)
  have := (h.own i (by rw [← h.len]; exact h') h').el e
  exact ho.block b (by omega) (fun e' => ha.2 i h' (by rw [e, e']))
theorem ISmp.set {B b i gs off : Nat} {W : World} {r : List Int} {v : Value} (h : ISmp B W (some ⟨gs, off, none⟩) r) (hne : b ≠ gs) : ISmp B (W.setCell ⟨b, i, none⟩ v) (some ⟨gs, off, none⟩) r := fun k hk => by
  obtain ⟨b', o', e1, h1, h2⟩ := h k hk
  injection e1 with e1
  injection e1 with e1 e2
  subst e1 e2
  exact ⟨_, _, rfl, h1, (set_far (by exact hne)).trans h2⟩
/-- The Turns in their variable, while the turns pass. -/
structure Tn (w : World) (b8 g n cap : Nat) (a : Int) (fr : Bool) (W : World) : Prop where
  c0 : W.cell? ⟨b8, 0, none⟩ = some (.slice (some ⟨g, 0, none⟩) n cap)
  c1 : W.cell? ⟨b8, 1, none⟩ = some (.int .i64 a)
  c2 : W.cell? ⟨b8, 2, none⟩ = some (.bool fr)
  fz : ∀ o : Nat, W.frozen? ⟨b8, o, none⟩ = false
  on : Only b8 w W
theorem Tn.drew {w W : World} {b8 g n cap : Nat} {a : Int} {fr : Bool} (h : Tn w b8 g n cap a fr W) : Tn w b8 g n cap a fr W.drew := ⟨h.c0, h.c1, h.c2, h.fz, only_drew h.on⟩
theorem Tn.next {w W : World} {b8 g n cap : Nat} {a : Int} {fr : Bool} (h : Tn w b8 g n cap a fr W) (a' : Int) : Tn w b8 g n cap a' true ((W.setCell ⟨b8, 1, none⟩ (.int .i64 a')).drew.setCell ⟨b8, 2, none⟩ (.bool true)) := by
  refine ⟨(set_other (by decide)).trans ((World.cell?_drew ..).trans ((set_other (by decide)).trans h.c0)), (set_other (by decide)).trans ((World.cell?_drew ..).trans (set_same _ h.c1)), set_same _ ((World.cell?_drew ..).trans ((set_other (by decide)).trans h.c2)), fun o => by simpa using h.fz o, ?_⟩
  exact (only_drew (h.on.setCell rfl _)).setCell rfl _
/-- What is answered: the flows in their place, the Turns in their variable, and two numbers. -/
def SlPost (w : World) (lo b8 g : Nat) (vs : List Value) (fs : List F8) (cap : Nat) (at' : Int) (fresh : Bool) (e : Ending) (w' : World) : Prop :=
  ∃ vs', e = .returned (.tuple #[.int .i64 (srvI fs at' fresh), .int .i64 (srvN fs at' fresh)]) ∧ FO w' lo w'.heap.size g fs.length vs' (srvFs fs at' fresh) ∧ (∀ b, b < w.heap.size → Apart8 b g vs → Apart8 b g vs') ∧
    w'.cell? ⟨b8, 0, none⟩ = some (.slice (some ⟨g, 0, none⟩) fs.length cap) ∧ w'.cell? ⟨b8, 1, none⟩ = some (.int .i64 (srvAt fs at' fresh)) ∧ w'.cell? ⟨b8, 2, none⟩ = some (.bool (srvFr fs at' fresh)) ∧ (∀ o : Nat, w'.frozen? ⟨b8, o, none⟩ = false) ∧ Only2 g b8 w w'
/-- .. and one list is another, a row of its own; or nothing has turned. -/
def SlRow (w : World) (vs : List Value) (fs : List F8) (at' : Int) (fresh : Bool) (w' : World) (vs' : List Value) : Prop :=
  (vs' = vs ∧ srvFs fs at' fresh = fs ∧ w' = w) ∨ ∃ m v q R r base, m < vs.length ∧ vs' = vs.set m v ∧ srvFs fs at' fresh = fs.set m (q, R, r) ∧ w.heap.size ≤ base ∧ w'.ownsRow base 2 1 v r.length (flatI r)
def SlPost2 (w : World) (lo b8 g : Nat) (vs : List Value) (fs : List F8) (cap : Nat) (at' : Int) (fresh : Bool) (e : Ending) (w' : World) : Prop :=
  ∃ vs', (e = .returned (.tuple #[.int .i64 (srvI fs at' fresh), .int .i64 (srvN fs at' fresh)]) ∧ FO w' lo w'.heap.size g fs.length vs' (srvFs fs at' fresh) ∧ (∀ b, b < w.heap.size → Apart8 b g vs → Apart8 b g vs') ∧
    w'.cell? ⟨b8, 0, none⟩ = some (.slice (some ⟨g, 0, none⟩) fs.length cap) ∧ w'.cell? ⟨b8, 1, none⟩ = some (.int .i64 (srvAt fs at' fresh)) ∧ w'.cell? ⟨b8, 2, none⟩ = some (.bool (srvFr fs at' fresh)) ∧ (∀ o : Nat, w'.frozen? ⟨b8, o, none⟩ = false) ∧ Only2 g b8 w w') ∧ SlRow w vs fs at' fresh w' vs'
theorem SlPost2.one {w : World} {lo b8 g : Nat} {vs : List Value} {fs : List F8} {cap : Nat} {at' : Int} {fresh : Bool} {e : Ending} {w' : World} (h : SlPost2 w lo b8 g vs fs cap at' fresh e w') : SlPost w lo b8 g vs fs cap at' fresh e w' := by
  obtain ⟨vs', h, _⟩ := h
  exact ⟨vs', h⟩
/-- Whether one of the first k has Sizes. -/
def anyTo (fs : List F8) (k : Nat) : Bool := (fs.take k).any fun f => decide (0 < f.2.2.length)
theorem any_succ {fs : List F8} {k : Nat} (h : k < fs.length) : anyTo fs (k + 1) = (anyTo fs k || decide (0 < fs[k].2.2.length)) := by
  unfold anyTo
  rw [List.take_succ_eq_append_getElem h, List.any_append]
  simp
theorem any_no {fs : List F8} (h : anyTo fs fs.length = false) : ∀ (k : Nat) (hk : k < fs.length), fs[k].2.2 = [] := by
  intro k hk
  unfold anyTo at h
  rw [List.take_length, List.any_eq_false] at h
  have := h _ (List.getElem_mem hk)
  simpa using this
theorem any_yes {fs : List F8} (h : anyTo fs fs.length = true) : ∃ (k : Nat) (hk : k < fs.length), fs[k].2.2 ≠ [] := by
  unfold anyTo at h
  rw [List.take_length, List.any_eq_true] at h
  obtain ⟨f, hf, hd⟩ := h
  obtain ⟨k, hk, rfl⟩ := List.mem_iff_getElem.1 hf
  exact ⟨k, hk, fun e => by rw [e] at hd; simp at hd⟩
theorem sl_none {w : World} {lo hi b8 g cap : Nat} {vs : List Value} {fs : List F8} {at' : Int} {fresh : Bool} (f : FO w lo hi g fs.length vs fs) (ha : Apart8 b8 g vs) (t : Tn w b8 g fs.length cap at' fresh w) (hn : anyTo fs fs.length = false) :
    SlPost2 w lo b8 g vs fs cap at' fresh (.returned (.tuple #[.int .i64 (-1), .int .i64 0])) w := by
  have hf : findT fs (comeOf fs.length at' fresh fs.length) = none := find_none (any_no hn) _
  refine ⟨vs, ⟨?_, ?_, fun _ _ h => h, t.c0, ?_, ?_, t.fz, Only2.refl _ _ _⟩, .inl ⟨rfl, by unfold srvFs; rw [hf], rfl⟩⟩
  · unfold srvI srvN; rw [hf]
  · unfold srvFs; rw [hf]; exact f.wider (Nat.le_refl _) f.top (Nat.le_refl _)
  · unfold srvAt; rw [hf]; exact t.c1
  · unfold srvFr; rw [hf]; exact t.c2
theorem sl_yes {w Wf : World} {lo hi b8 g cap base m : Nat} {vs : List Value} {fs : List F8} {at' q R s : Int} {fresh : Bool} {r : List Int} {v : Value} (f : FO w lo hi g fs.length vs fs) (ha : Apart8 b8 g vs) (hb8 : b8 < w.heap.size) (hm : m < fs.length)
    (on : Only2 g b8 w Wf) (hc : ∀ o, o < m * 3 ∨ m * 3 + 2 < o → Wf.cell? ⟨g, o, none⟩ = w.cell? ⟨g, o, none⟩) (hf : ∀ o : Nat, Wf.frozen? ⟨g, o, none⟩ = w.frozen? ⟨g, o, none⟩)
    (e0 : Wf.cell? ⟨g, m * 3, none⟩ = some (.int .i64 q)) (e1 : Wf.cell? ⟨g, m * 3 + 1, none⟩ = some (.int .i64 R)) (e2 : Wf.cell? ⟨g, m * 3 + 2, none⟩ = some v) (own : Wf.ownsRow base 2 1 v r.length (flatI r)) (hbase : w.heap.size ≤ base)
    (x0 : Wf.cell? ⟨b8, 0, none⟩ = some (.slice (some ⟨g, 0, none⟩) fs.length cap)) (x1 : Wf.cell? ⟨b8, 1, none⟩ = some (.int .i64 (m : Int))) (x2 : Wf.cell? ⟨b8, 2, none⟩ = some (.bool false)) (xf : ∀ o : Nat, Wf.frozen? ⟨b8, o, none⟩ = false)
    (hy : findT fs (comeOf fs.length at' fresh fs.length) = some ((m : Int), (q, R, r), s)) : SlPost2 w lo b8 g vs fs cap at' fresh (.returned (.tuple #[.int .i64 (m : Int), .int .i64 s])) Wf := by
  have g0 := f.g0
  have g1 := f.g1
  have tp := f.top
  have hmv : m < vs.length := by rw [f.len]; exact hm
  have hnew : ∀ b, elB v = some b → base ≤ b ∧ b < Wf.heap.size := fun b e => own.lt b (el_own own e)
  have el : ∀ i (h' : i < vs.length) b, elB vs[i] = some b → b < hi := fun i h' b e => ((f.own i (by rw [← f.len]; exact h') h').el e).2.1
  refine ⟨vs.set m v, ⟨?_, ?_, fun b hbw hA => ⟨hA.1, fun i h' => ?_⟩, x0, ?_, ?_, xf, on⟩, .inr ⟨m, v, q, R, r, base, hmv, rfl, by unfold srvFs; rw [hy]; simp, hbase, own⟩⟩
  · unfold srvI srvN; rw [hy]
  · unfold srvFs
    rw [hy]
    simp only [Int.toNat_natCast]
    refine f.swap hm hmv (by have := on.size; omega) (Nat.le_refl _) on.size (fun j hj b hne e => ?_) hc hf e0 e1 e2 (own_ints (row_lower own (by omega))).io (fun b e => ⟨by have := hnew b e; omega, fun j hj hne e' => ?_⟩)
    · have := el j hj b e
      exact on.block b (by omega) (fun e' => f.far j hj (by rw [e, e'])) (fun e' => ha.2 j hj (by rw [e, e']))
    · have := hnew b e
      have := el j hj b e'
      omega
  · rw [List.getElem_set]
    by_cases e : m = i
    · rw [if_pos e]
      intro e'
      have := hnew b e'
      omega
    · rw [if_neg e]
      exact hA.2 i (by simpa using h')
  · unfold srvAt; rw [hy]; exact x1
  · unfold srvFr; rw [hy]; exact x2
theorem sl_end1 {w V3 w6 : World} {lo hi b8 g cap m : Nat} {vs : List Value} {fs : List F8} {at' q R s : Int} {fresh : Bool} {r : List Int} {v : Value} (f : FO w lo hi g fs.length vs fs) (ha : Apart8 b8 g vs) (hb8 : b8 < w.heap.size) (hm : m < fs.length)
    (O3 : Only2 g b8 w V3) (AC : ∀ o : Nat, o ≠ m * 3 + 1 → V3.cell? ⟨g, o, none⟩ = w.cell? ⟨g, o, none⟩) (AF : ∀ o : Nat, V3.frozen? ⟨g, o, none⟩ = w.frozen? ⟨g, o, none⟩) (BF : ∀ o : Nat, V3.frozen? ⟨b8, o, none⟩ = false)
    (a0 : V3.cell? ⟨g, m * 3, none⟩ = some (.int .i64 q)) (a1 : V3.cell? ⟨g, m * 3 + 1, none⟩ = some (.int .i64 R)) {z : Value} (a2 : V3.cell? ⟨g, m * 3 + 2, none⟩ = some z)
    (b0 : V3.cell? ⟨b8, 0, none⟩ = some (.slice (some ⟨g, 0, none⟩) fs.length cap)) (b1 : V3.cell? ⟨b8, 1, none⟩ = some (.int .i64 (m : Int))) (b2 : V3.cell? ⟨b8, 2, none⟩ = some (.bool false)) (hb6 : Below V3.heap.size V3 w6) (own : w6.ownsRow V3.heap.size 2 1 v r.length (flatI r))
    (hy : findT fs (comeOf fs.length at' fresh fs.length) = some ((m : Int), (q, R, r), s)) : SlPost2 w lo b8 g vs fs cap at' fresh (.returned (.tuple #[.int .i64 (m : Int), .int .i64 s])) (w6.setCell ⟨g, m * 3 + 2, none⟩ v) := by
  have hgw : g < w.heap.size := by have := f.g1; have := f.top; omega
  have hsz := O3.size
  have hg3 : g < V3.heap.size := by omega
  have hb3 : b8 < V3.heap.size := by omega
  have hbg := ha.1
  have cg : ∀ o : Nat, w6.cell? ⟨g, o, none⟩ = V3.cell? ⟨g, o, none⟩ := fun o => hb6.cell (p := ⟨g, o, none⟩) hg3
  have cb : ∀ o : Nat, (w6.setCell ⟨g, m * 3 + 2, none⟩ v).cell? ⟨b8, o, none⟩ = V3.cell? ⟨b8, o, none⟩ := fun o => (set_far (fun e => hbg e.symm)).trans (hb6.cell (p := ⟨b8, o, none⟩) hb3)
  refine sl_yes f ha hb8 hm ((O3.trans (Only2.of_below hb6)).setA _) (fun o ho => (set_other (by omega)).trans ((cg o).trans (AC o (by omega)))) (fun o => ?_) ((set_other (by omega)).trans ((cg _).trans a0)) ((set_other (by omega)).trans ((cg _).trans a1)) (set_same _ ((cg _).trans a2)) (row_set own hg3) hsz ((cb 0).trans b0) ((cb 1).trans b1) ((cb 2).trans b2) (fun o => ?_) hy
  · rw [World.frozen?_setCell]
    exact (hb6.frozen (p := ⟨g, o, none⟩) hg3).trans (AF o)
  · rw [World.frozen?_setCell]
    exact (hb6.frozen (p := ⟨b8, o, none⟩) hb3).trans (BF o)
theorem sl_end0 {w V3 w6 : World} {lo hi b8 g cap m : Nat} {vs : List Value} {fs : List F8} {at' q R s : Int} {fresh : Bool} {r : List Int} {v : Value} (f : FO w lo hi g fs.length vs fs) (ha : Apart8 b8 g vs) (hb8 : b8 < w.heap.size) (hm : m < fs.length)
    (O3 : Only2 g b8 w V3) (AC : ∀ o : Nat, o ≠ m * 3 + 1 → V3.cell? ⟨g, o, none⟩ = w.cell? ⟨g, o, none⟩) (AF : ∀ o : Nat, V3.frozen? ⟨g, o, none⟩ = w.frozen? ⟨g, o, none⟩) (BF : ∀ o : Nat, V3.frozen? ⟨b8, o, none⟩ = false)
    (a0 : V3.cell? ⟨g, m * 3, none⟩ = some (.int .i64 q)) (a1 : V3.cell? ⟨g, m * 3 + 1, none⟩ = some (.int .i64 R)) {z : Value} (a2 : V3.cell? ⟨g, m * 3 + 2, none⟩ = some z)
    (b0 : V3.cell? ⟨b8, 0, none⟩ = some (.slice (some ⟨g, 0, none⟩) fs.length cap)) (b1 : V3.cell? ⟨b8, 1, none⟩ = some (.int .i64 (m : Int))) (b2 : V3.cell? ⟨b8, 2, none⟩ = some (.bool false)) (hb6 : Below V3.heap.size V3 w6) (own : w6.ownsRow V3.heap.size 2 1 v r.length (flatI r))
    (hy : findT fs (comeOf fs.length at' fresh fs.length) = some ((m : Int), (q, 0, r), s)) : SlPost2 w lo b8 g vs fs cap at' fresh (.returned (.tuple #[.int .i64 (m : Int), .int .i64 s])) ((w6.setCell ⟨g, m * 3 + 2, none⟩ v).setCell ⟨g, m * 3 + 1, none⟩ (.int .i64 0)) := by
  have hgw : g < w.heap.size := by have := f.g1; have := f.top; omega
  have hsz := O3.size
  have hg3 : g < V3.heap.size := by omega
  have hb3 : b8 < V3.heap.size := by omega
  have hbg := ha.1
  have cg : ∀ o : Nat, w6.cell? ⟨g, o, none⟩ = V3.cell? ⟨g, o, none⟩ := fun o => hb6.cell (p := ⟨g, o, none⟩) hg3
  have cb : ∀ o : Nat, ((w6.setCell ⟨g, m * 3 + 2, none⟩ v).setCell ⟨g, m * 3 + 1, none⟩ (.int .i64 0)).cell? ⟨b8, o, none⟩ = V3.cell? ⟨b8, o, none⟩ := fun o => (set_far (fun e => hbg e.symm)).trans ((set_far (fun e => hbg e.symm)).trans (hb6.cell (p := ⟨b8, o, none⟩) hb3))
  refine sl_yes f ha hb8 hm (((O3.trans (Only2.of_below hb6)).setA _).setA _) (fun o ho => (set_other (by omega)).trans ((set_other (by omega)).trans ((cg o).trans (AC o (by omega))))) (fun o => ?_) ((set_other (by omega)).trans ((set_other (by omega)).trans ((cg _).trans a0))) (set_same _ ((set_other (by omega)).trans ((cg _).trans a1))) ((set_other (by omega)).trans (set_same _ ((cg _).trans a2))) (row_set (row_set own hg3) hg3) hsz ((cb 0).trans b0) ((cb 1).trans b1) ((cb 2).trans b2) (fun o => ?_) hy
  · rw [World.frozen?_setCell, World.frozen?_setCell]
    exact (hb6.frozen (p := ⟨g, o, none⟩) hg3).trans (AF o)
  · rw [World.frozen?_setCell, World.frozen?_setCell]
    exact (hb6.frozen (p := ⟨b8, o, none⟩) hb3).trans (BF o)
set_option maxHeartbeats 8000000 in
theorem l8Serve_two {w : World} {lo hi b8 g : Nat} {vs : List Value} {fs : List F8} (cap : Nat) (at' : Int) (fresh : Bool) (f : FO w lo hi g fs.length vs fs) (hok : TurnsOk fs at' fresh) (ha : Apart8 b8 g vs) (hb8 : b8 < w.heap.size)
    (c0 : w.cell? ⟨b8, 0, none⟩ = some (.slice (some ⟨g, 0, none⟩) fs.length cap)) (c1 : w.cell? ⟨b8, 1, none⟩ = some (.int .i64 at')) (c2 : w.cell? ⟨b8, 2, none⟩ = some (.bool fresh)) (fz : ∀ o : Nat, w.frozen? ⟨b8, o, none⟩ = false) :
    Calls Try.prog 82 #[.pointer (some ⟨b8, 0, none⟩)] w (SlPost2 w lo b8 g vs fs cap at' fresh) := by
  obtain ⟨i0, hi0, hz0, hz1', hz2⟩ := info_parts info_int
  have hl1 := hok.l0
  have hl30 := hok.l1
  have HOK : Hid (TurnsOk fs at' fresh) := hok
  have HFO : Hid (FO w lo hi g fs.length vs fs) := f
  have HA : Hid (Apart8 b8 g vs) := ha
  have HT : Hid (Tn w b8 g fs.length cap at' fresh w) := ⟨c0, c1, c2, fz, Only.refl _ _⟩
  have hli : (fs.length : Int) ≤ 30 := by omega
  have hli0 : (1 : Int) ≤ (fs.length : Int) := by omega
  clear hok f ha c1 c2 fz
  go_enter Try.func82, Try.ntmps82
  go_wp2
  go_loop [4, 5] (fun s i => ∃ k : Nat, i = .int .i64 k ∧ k ≤ fs.length ∧ s = .bool (anyTo fs k)) (fun _ i => fs.length - (intOf i).toNat)
  case atStart => exact ⟨0, rfl, by omega, rfl⟩
  case round =>
    obtain ⟨k, rfl, hk, rfl⟩ := hrel
    by_cases hlt : k < fs.length
    · have hlt' : (k : Int) < (fs.length : Int) := by omega
      have hkv : k < vs.length := by rw [HFO.out.len]; exact hlt
      have HS : Hid (anyTo fs (k + 1) = (anyTo fs k || decide (0 < fs[k].2.2.length))) := any_succ hlt
      cases hs : anyTo fs k
      · rw [hs] at HS
        obtain ⟨sa, sc, e1, _, _⟩ := (HFO.out.own k hlt hkv).smp
        obtain ⟨_, _, d2⟩ := HFO.out.got k hlt hkv
        rw [e1] at d2
        have hlen := (HOK.out.flow k hlt).len
        obtain ⟨L, hL⟩ : ∃ L, fs[k].2.2.length = L := ⟨_, rfl⟩
        rw [hL] at d2 hlen HS
        clear hL e1
        have hLi : (L : Int) ≤ 100 := by omega
        go_wp2
        go_round
        case rel => exact ⟨k + 1, by go_num, by omega, by rw [HS.out]; simp⟩
        case measure => first | (simp [intOf]; done) | (simp [intOf]; omega)
      · rw [hs] at HS
        go_wp2
        go_round
        case rel => exact ⟨k + 1, by go_num, by omega, by rw [HS.out]; rfl⟩
        case measure => first | (simp [intOf]; done) | (simp [intOf]; omega)
    · obtain rfl : k = fs.length := by omega
      cases hs : anyTo fs fs.length
      · have HP := sl_none HFO.out HA.out HT.out hs
        have HP' : Hid _ := HP
        clear HP
        go_wp2
        go_ret2
        exact HP'.out
      · have HE : Hid (findT fs (comeOf fs.length at' fresh fs.length) ≠ none) := find_has HOK.out (any_yes hs)
        clear hs
        go_wp2
        go_loopg [6] (fs.length + 1) (fun kk _ wr => ∃ j : Nat, kk + j = fs.length + 1 ∧ ∃ hj : j < (comeOf fs.length at' fresh fs.length).length, Hid (Tn w b8 g fs.length cap (comeOf fs.length at' fresh fs.length)[j].1 (comeOf fs.length at' fresh fs.length)[j].2 wr) ∧ Hid (findT fs (comeOf fs.length at' fresh fs.length) = findT fs ((comeOf fs.length at' fresh fs.length).drop j)))
        case atStart => exact ⟨0, by omega, by rw [come_length]; omega, HT.out, rfl⟩
        case round =>
          clear HT c0
          obtain ⟨j, hkj, hj, T0, HF⟩ := hrel
          obtain ⟨a, fr, hx⟩ : ∃ a fr, (comeOf fs.length at' fresh fs.length)[j] = (a, fr) := ⟨_, _, rfl⟩
          obtain ⟨a0, a1⟩ := come_in (n := fs.length) (at' := at') (fresh := fresh) (m := fs.length) HOK.out.l0 HOK.out.a0 HOK.out.a1 hj
          rw [hx] at a0 a1 T0
          simp only at a0 a1 T0
          obtain ⟨m, rfl⟩ : ∃ m : Nat, a = m := ⟨a.toNat, by omega⟩
          have hm : m < fs.length := by omega
          have hdr : (comeOf fs.length at' fresh fs.length).drop j = ((m : Int), fr) :: (comeOf fs.length at' fresh fs.length).drop (j + 1) := by rw [List.drop_eq_getElem_cons hj, hx]
          have htry : tryAt fs ((m : Int), fr) = tryF fs[m] fr := by unfold tryAt; simp only [Int.toNat_natCast]; rw [List.getElem?_eq_getElem hm]
          have HNX : Hid (tryF fs[m] fr = none → ∃ hj' : j + 1 < (comeOf fs.length at' fresh fs.length).length, (comeOf fs.length at' fresh fs.length)[j + 1] = (((m : Int) + 1) % (fs.length : Int), true) ∧ findT fs (comeOf fs.length at' fresh fs.length) = findT fs ((comeOf fs.length at' fresh fs.length).drop (j + 1))) := by
            intro hn
            have fd : findT fs (comeOf fs.length at' fresh fs.length) = findT fs ((comeOf fs.length at' fresh fs.length).drop (j + 1)) := by rw [HF.out, hdr]; exact find_no (by rw [htry]; exact hn)
            have hj' : j + 1 < (comeOf fs.length at' fresh fs.length).length := by
              rcases Nat.lt_or_ge (j + 1) (comeOf fs.length at' fresh fs.length).length with h | h
              · exact h
              · rw [List.drop_eq_nil_of_le h] at fd
                exact absurd fd HE.out
            refine ⟨hj', ?_, fd⟩
            rw [come_next HOK.out.l0 HOK.out.a0 HOK.out.a1 hj hj', hx]
          have HYS : Hid (∀ f s, tryF fs[m] fr = some (f, s) → findT fs (comeOf fs.length at' fresh fs.length) = some ((m : Int), f, s)) := by
            intro f s hs
            rw [HF.out, hdr]
            exact find_yes (x := ((m : Int), fr)) (by rw [htry]; exact hs)
          have hfo := HOK.out.flow m hm
          have hq0 := hfo.q0
          have hq1 := hfo.q1
          have hd0 := hfo.d0
          have hd1 := hfo.d1
          have hlx := hfo.len
          have HSG : Hid (∀ i (h : i < fs[m].2.2.length), 1 ≤ fs[m].2.2[i] ∧ fs[m].2.2[i] ≤ 1500) := fun i h => sg_at hfo.seg i h
          have hgk : 1 ≤ gk := by have := come_length fs.length at' fresh fs.length; omega
          clear hx hdr htry hfo HF
          have hmv : m < vs.length := by rw [HFO.out.len]; exact hm
          have hm' : (m : Int) < (fs.length : Int) := by omega
          have hrem : ((m : Int) + 1).tmod (fs.length : Int) = ((m : Int) + 1) % (fs.length : Int) := Int.tmod_eq_emod_of_nonneg (by omega)
          have hwm : IntKind.i64.wrap ((m : Int) + 1) = (m : Int) + 1 := by simp only [IntKind.wrap_i64, wrap64]; omega
          have hnil : ¬ (fs = []) := fun e => by rw [e] at hm; cases hm
          have hgl : g < w.heap.size := by have := HFO.out.g1; have := HFO.out.top; omega
          have hbg : b8 ≠ g := HA.out.1
          obtain ⟨x, hx⟩ : ∃ x, fs[m] = x := ⟨_, rfl⟩
          have HX : Hid (fs[m] = x) := hx
          rw [hx] at hq0 hq1 hd0 hd1 hlx HNX HYS HSG
          clear hx
          obtain ⟨q, d, xs⟩ := x
          simp only at hq0 hq1 hd0 hd1 hlx HSG
          go_upto_region 8 with (fail)
          refine wp_region_held_drew (S := fun w' => w'.cell? ⟨b8, 0, none⟩ = some (.slice (some ⟨g, 0, none⟩) fs.length cap) ∧ w'.cell? ⟨b8, 1, none⟩ = some (.int .i64 (m : Int))) (by kernel_rfl) (⟨by rw [World.cell?_drew]; exact T0.out.c0, by rw [World.cell?_drew]; exact T0.out.c1⟩) (fun hS => ?_)
          refine wpAnyH_take (i := 0) (v := ?_) rfl (by kernel_rfl) (by kernel_rfl) (by kernel_rfl) (fun _ _ _ h => h) (Or.inl ⟨by rfl, ?_⟩) (by assumption) ?_
          rotate_left 1
          · (intro w' hSw; (try dsimp only at hSw); go_simp; try with_reducible rfl)
          try simp only [Act.put, List.setIfInBounds_toArray, List.set_cons_zero, List.set_cons_succ, List.getElem_toArray, List.getElem_cons_succ, List.getElem_cons_zero]
          refine wpAnyH_take (i := 1) (v := ?_) rfl (by kernel_rfl) (by kernel_rfl) (by kernel_rfl) (fun _ _ _ h => h) (Or.inl ⟨by rfl, ?_⟩) (by assumption) ?_
          rotate_left 1
          · (intro w' hSw; (try dsimp only at hSw); go_simp; try with_reducible rfl)
          try simp only [Act.put, List.setIfInBounds_toArray, List.set_cons_zero, List.set_cons_succ, List.getElem_toArray, List.getElem_cons_succ, List.getElem_cons_zero]
          refine wpAnyH_take (i := 2) (v := ?_) rfl (by kernel_rfl) (by kernel_rfl) (by kernel_rfl) (fun _ _ _ h => h) (Or.inl ⟨by rfl, ?_⟩) (by assumption) ?_
          rotate_left 1
          · (intro w' hSw; (try dsimp only at hSw); go_simp; try with_reducible rfl)
          try simp only [Act.put, List.setIfInBounds_toArray, List.set_cons_zero, List.set_cons_succ, List.getElem_toArray, List.getElem_cons_succ, List.getElem_cons_zero]
          refine wpAnyH_take (i := 3) (v := ?_) rfl (by kernel_rfl) (by kernel_rfl) (by kernel_rfl) (fun _ _ _ h => h) (Or.inl ⟨by rfl, ?_⟩) (by assumption) ?_
          rotate_left 1
          · (intro w' hSw; (try dsimp only at hSw); go_simp; try with_reducible rfl)
          try simp only [Act.put, List.setIfInBounds_toArray, List.set_cons_zero, List.set_cons_succ, List.getElem_toArray, List.getElem_cons_succ, List.getElem_cons_zero]
          refine wpAnyH_take (i := 4) (v := ?_) rfl (by kernel_rfl) (by kernel_rfl) (by kernel_rfl) (fun _ _ _ h => h) (Or.inl ⟨by rfl, ?_⟩) (by assumption) ?_
          rotate_left 1
          · (intro w' hSw; (try dsimp only at hSw); go_simp; try with_reducible rfl)
          try simp only [Act.put, List.setIfInBounds_toArray, List.set_cons_zero, List.set_cons_succ, List.getElem_toArray, List.getElem_cons_succ, List.getElem_cons_zero]
          refine wpAnyH_take (i := 5) (v := ?_) rfl (by kernel_rfl) (by kernel_rfl) (by kernel_rfl) (fun _ _ _ h => h) (Or.inl ⟨by rfl, ?_⟩) (by assumption) ?_
          rotate_left 1
          · (intro w' hSw; (try dsimp only at hSw); go_simp; try with_reducible rfl)
          try simp only [Act.put, List.setIfInBounds_toArray, List.set_cons_zero, List.set_cons_succ, List.getElem_toArray, List.getElem_cons_succ, List.getElem_cons_zero]
          refine wpAnyH_take (i := 6) (v := ?_) rfl (by kernel_rfl) (by kernel_rfl) (by kernel_rfl) (fun _ _ _ h => h) (Or.inl ⟨by rfl, ?_⟩) (by assumption) ?_
          rotate_left 1
          · (intro w' hSw; (try dsimp only at hSw); go_simp; try with_reducible rfl)
          try simp only [Act.put, List.setIfInBounds_toArray, List.set_cons_zero, List.set_cons_succ, List.getElem_toArray, List.getElem_cons_succ, List.getElem_cons_zero]
          refine wpAnyH_take (i := 7) (v := ?_) rfl (by kernel_rfl) (by kernel_rfl) (by kernel_rfl) (fun _ _ _ h => h) (Or.inl ⟨by rfl, ?_⟩) (by assumption) ?_
          rotate_left 1
          · (intro w' hSw; (try dsimp only at hSw); go_simp; try with_reducible rfl)
          try simp only [Act.put, List.setIfInBounds_toArray, List.set_cons_zero, List.set_cons_succ, List.getElem_toArray, List.getElem_cons_succ, List.getElem_cons_zero]
          refine wpAnyH_take (i := 8) (v := ?_) rfl (by kernel_rfl) (by kernel_rfl) (by kernel_rfl) (fun _ _ _ h => h) (Or.inl ⟨by rfl, ?_⟩) (by assumption) ?_
          rotate_left 1
          · (intro w' hSw; (try dsimp only at hSw); go_simp; try with_reducible rfl)
          try simp only [Act.put, List.setIfInBounds_toArray, List.set_cons_zero, List.set_cons_succ, List.getElem_toArray, List.getElem_cons_succ, List.getElem_cons_zero]
          refine wpAnyH_take (i := 9) (v := ?_) rfl (by kernel_rfl) (by kernel_rfl) (by kernel_rfl) (fun _ _ _ h => h) (Or.inl ⟨by rfl, ?_⟩) (by assumption) ?_
          rotate_left 1
          · (intro w' hSw; (try dsimp only at hSw); go_simp; try with_reducible rfl)
          try simp only [Act.put, List.setIfInBounds_toArray, List.set_cons_zero, List.set_cons_succ, List.getElem_toArray, List.getElem_cons_succ, List.getElem_cons_zero]
          refine wpAnyH_done (by kernel_rfl) ?_ _
          obtain ⟨v1, hv1⟩ : ∃ v1, v1 = wr.drew := ⟨_, rfl⟩
          have T1 : Hid (Tn w b8 g fs.length cap (m : Int) fr v1) := by rw [hv1]; exact T0.out.drew
          rw [← hv1]
          clear hv1 T0
          have F1 : Hid (FO v1 lo hi g fs.length vs fs) := HFO.out.only8 T1.out.on HA.out
          obtain ⟨d0, d1, d2⟩ := F1.out.got m hm hmv
          obtain ⟨sv, cv, ev, hcv, hsm⟩ : ∃ sv cv, vs[m] = .slice sv xs.length cv ∧ xs.length ≤ cv ∧ ISmp v1.heap.size v1 sv xs := by
            have o := (F1.out.own m hm hmv).smp
            rw [HX.out] at o
            exact o
          rw [HX.out] at d0 d1
          rw [ev] at d2
          have HSM : Hid (ISmp v1.heap.size v1 sv xs) := hsm
          have HVM : Hid (vs[m] = .slice sv xs.length cv) := ev
          have df : ∀ o, o < fs.length * 3 → v1.frozen? ⟨g, o, none⟩ = false := fun o ho => (F1.out.any o ho).2
          have df0 : v1.frozen? ⟨g, m * 3, none⟩ = false := df _ (by omega)
          have df1 : v1.frozen? ⟨g, m * 3 + 1, none⟩ = false := df _ (by omega)
          have df2 : v1.frozen? ⟨g, m * 3 + 2, none⟩ = false := df _ (by omega)
          simp only at d0 d1
          have y0 := T1.out.c0
          have y1 := T1.out.c1
          have y2 := T1.out.c2
          have yf := T1.out.fz
          have hz1 := T1.out.on.size
          clear hsm ev df
          cases xs with
          | nil =>
            have HN := HNX.out (try_nil _ rfl)
            obtain ⟨hj', en, fd'⟩ := HN
            have HN : Hid (∃ hj' : j + 1 < (comeOf fs.length at' fresh fs.length).length, (comeOf fs.length at' fresh fs.length)[j + 1] = (((m : Int) + 1) % (fs.length : Int), true) ∧ findT fs (comeOf fs.length at' fresh fs.length) = findT fs ((comeOf fs.length at' fresh fs.length).drop (j + 1))) := ⟨hj', en, fd'⟩
            clear hj' en fd'
            go_wp2
            refine region_late (S := fun w' => w'.cell? ⟨b8, 0, none⟩ = some (.slice (some ⟨g, 0, none⟩) fs.length cap) ∧ w'.cell? ⟨b8, 1, none⟩ = some (.int .i64 (m : Int))) 14 (by kernel_rfl) (⟨by rw [World.cell?_drew]; exact y0, by rw [World.cell?_drew]; exact y1⟩) (fun hS => ?_)
            refine late_take (i := 0) (v := ?_) rfl (by kernel_rfl) (by kernel_rfl) (by kernel_rfl) (by kernel_rfl) (fun _ _ _ h => h) (Or.inl ⟨by rfl, ?_⟩) (by assumption) ?_
            rotate_left 1
            · (intro w' hSw; (try dsimp only at hSw); go_simp; try with_reducible rfl)
            try simp only [Act.put, List.setIfInBounds_toArray, List.set_cons_zero, List.set_cons_succ, List.getElem_toArray, List.getElem_cons_succ, List.getElem_cons_zero]
            refine late_take (i := 1) (v := ?_) rfl (by kernel_rfl) (by kernel_rfl) (by kernel_rfl) (by kernel_rfl) (fun _ _ _ h => h) (Or.inl ⟨by rfl, ?_⟩) (by assumption) ?_
            rotate_left 1
            · (intro w' hSw; (try dsimp only at hSw); go_simp; try with_reducible rfl)
            try simp only [Act.put, List.setIfInBounds_toArray, List.set_cons_zero, List.set_cons_succ, List.getElem_toArray, List.getElem_cons_succ, List.getElem_cons_zero]
            refine late_take (i := 2) (v := ?_) rfl (by kernel_rfl) (by kernel_rfl) (by kernel_rfl) (by kernel_rfl) (fun _ _ _ h => h) (Or.inl ⟨by rfl, ?_⟩) (by assumption) ?_
            rotate_left 1
            · (intro w' hSw; (try dsimp only at hSw); go_simp; try with_reducible rfl)
            try simp only [Act.put, List.setIfInBounds_toArray, List.set_cons_zero, List.set_cons_succ, List.getElem_toArray, List.getElem_cons_succ, List.getElem_cons_zero]
            refine late_take (i := 3) (v := ?_) rfl (by kernel_rfl) (by kernel_rfl) (by kernel_rfl) (by kernel_rfl) (fun _ _ _ h => h) (Or.inl ⟨by rfl, ?_⟩) (by assumption) ?_
            rotate_left 1
            · (intro w' hSw; (try dsimp only at hSw); go_simp; try with_reducible rfl)
            try simp only [Act.put, List.setIfInBounds_toArray, List.set_cons_zero, List.set_cons_succ, List.getElem_toArray, List.getElem_cons_succ, List.getElem_cons_zero]
            refine late_take (i := 4) (v := ?_) rfl (by kernel_rfl) (by kernel_rfl) (by kernel_rfl) (by kernel_rfl) (fun _ _ _ h => h) (Or.inl ⟨by rfl, ?_⟩) (by assumption) ?_
            rotate_left 1
            · (intro w' hSw; (try dsimp only at hSw); go_simp; try with_reducible rfl)
            try simp only [Act.put, List.setIfInBounds_toArray, List.set_cons_zero, List.set_cons_succ, List.getElem_toArray, List.getElem_cons_succ, List.getElem_cons_zero]
            refine late_take (i := 5) (v := ?_) rfl (by kernel_rfl) (by kernel_rfl) (by kernel_rfl) (by kernel_rfl) (fun _ _ _ h => h) (Or.inl ⟨by rfl, ?_⟩) (by assumption) ?_
            rotate_left 1
            · (intro w' hSw; (try dsimp only at hSw); go_simp; try with_reducible rfl)
            try simp only [Act.put, List.setIfInBounds_toArray, List.set_cons_zero, List.set_cons_succ, List.getElem_toArray, List.getElem_cons_succ, List.getElem_cons_zero]
            refine late_take (i := 6) (v := ?_) rfl (by kernel_rfl) (by kernel_rfl) (by kernel_rfl) (by kernel_rfl) (fun _ _ _ h => h) (Or.inl ⟨by rfl, ?_⟩) (by assumption) ?_
            rotate_left 1
            · (intro w' hSw; (try dsimp only at hSw); go_simp; try with_reducible rfl)
            try simp only [Act.put, List.setIfInBounds_toArray, List.set_cons_zero, List.set_cons_succ, List.getElem_toArray, List.getElem_cons_succ, List.getElem_cons_zero]
            refine late_take (i := 7) (v := ?_) rfl (by kernel_rfl) (by kernel_rfl) (by kernel_rfl) (by kernel_rfl) (fun _ _ _ h => h) (Or.inl ⟨by rfl, ?_⟩) (by assumption) ?_
            rotate_left 1
            · (intro w' hSw; (try dsimp only at hSw); go_simp; try with_reducible rfl)
            try simp only [Act.put, List.setIfInBounds_toArray, List.set_cons_zero, List.set_cons_succ, List.getElem_toArray, List.getElem_cons_succ, List.getElem_cons_zero]
            refine late_take (i := 8) (v := ?_) rfl (by kernel_rfl) (by kernel_rfl) (by kernel_rfl) (by kernel_rfl) (fun _ _ _ h => h) (Or.inl ⟨by rfl, ?_⟩) (by assumption) ?_
            rotate_left 1
            · (intro w' hSw; (try dsimp only at hSw); go_simp; try with_reducible rfl)
            try simp only [Act.put, List.setIfInBounds_toArray, List.set_cons_zero, List.set_cons_succ, List.getElem_toArray, List.getElem_cons_succ, List.getElem_cons_zero]
            refine late_take (i := 9) (v := ?_) rfl (by kernel_rfl) (by kernel_rfl) (by kernel_rfl) (by kernel_rfl) (fun _ _ _ h => h) (Or.inl ⟨by rfl, ?_⟩) (by assumption) ?_
            rotate_left 1
            · (intro w' hSw; (try dsimp only at hSw); go_simp; try with_reducible rfl)
            try simp only [Act.put, List.setIfInBounds_toArray, List.set_cons_zero, List.set_cons_succ, List.getElem_toArray, List.getElem_cons_succ, List.getElem_cons_zero]
            refine late_take (i := 10) (v := ?_) rfl (by kernel_rfl) (by kernel_rfl) (by kernel_rfl) (by kernel_rfl) (fun _ _ _ h => h) (Or.inl ⟨by rfl, ?_⟩) (by assumption) ?_
            rotate_left 1
            · (intro w' hSw; (try dsimp only at hSw); go_simp; try with_reducible rfl)
            try simp only [Act.put, List.setIfInBounds_toArray, List.set_cons_zero, List.set_cons_succ, List.getElem_toArray, List.getElem_cons_succ, List.getElem_cons_zero]
            refine late_take (i := 11) (v := ?_) rfl (by kernel_rfl) (by kernel_rfl) (by kernel_rfl) (by kernel_rfl) (fun _ _ _ h => h) (Or.inl ⟨by rfl, ?_⟩) (by assumption) ?_
            rotate_left 1
            · (intro w' hSw; (try dsimp only at hSw); go_simp; try with_reducible rfl)
            try simp only [Act.put, List.setIfInBounds_toArray, List.set_cons_zero, List.set_cons_succ, List.getElem_toArray, List.getElem_cons_succ, List.getElem_cons_zero]
            refine late_one (i := 12) (by kernel_rfl) rfl (fun K hK => ?_)
            go_simp
            refine hK.out _ _ (by assumption) (fun _ => ?_)
            try simp only [Act.put, List.setIfInBounds_toArray, List.set_cons_zero, List.set_cons_succ, List.getElem_toArray, List.getElem_cons_succ, List.getElem_cons_zero]
            refine late_take (i := 13) (v := ?_) rfl (by kernel_rfl) (by kernel_rfl) (by kernel_rfl) (by kernel_rfl) (fun _ _ _ h => h) (Or.inl ⟨by rfl, ?_⟩) (by assumption) ?_
            rotate_left 1
            · (intro w' hSw; (try dsimp only at hSw); go_simp; try with_reducible rfl)
            try simp only [Act.put, List.setIfInBounds_toArray, List.set_cons_zero, List.set_cons_succ, List.getElem_toArray, List.getElem_cons_succ, List.getElem_cons_zero]
            refine late_last (by kernel_rfl) rfl (by kernel_rfl) (fun K hK => ?_)
            go_simp
            refine hK.out _ _ ?_
            try simp only [Act.put, List.setIfInBounds_toArray, List.set_cons_zero, List.set_cons_succ, List.getElem_toArray, List.getElem_cons_succ, List.getElem_cons_zero]
            go_wp2
            go_roundg (gk - 1)
            case measure => omega
            case rel =>
              obtain ⟨hj', en, fd'⟩ := HN.out
              refine ⟨j + 1, by omega, hj', ?_, fd'⟩
              rw [en]
              exact T1.out.next _
          | cons s r =>
            obtain ⟨gs, off, rfl, hgs, hcs⟩ := HSM.out 0 (by simp)
            rw [Nat.add_zero, List.getElem_cons_zero] at hcs
            obtain ⟨s0, s1⟩ := HSG.out 0 (by simp)
            rw [List.getElem_cons_zero] at s0 s1
            simp only [List.length_cons] at hlx d2 hcv HVM
            obtain ⟨sc, rfl⟩ : ∃ sc, cv = sc + 1 := ⟨cv - 1, by omega⟩
            have hgsg : gs ≠ g := fun e => F1.out.far m hmv (by rw [HVM.out, e]; rfl)
            have hgs8 : gs ≠ b8 := fun e => HA.out.2 m hmv (by rw [HVM.out, e]; rfl)
            have HRS : Hid (ISmp v1.heap.size v1 (some ⟨gs, off + 1, none⟩) r) := fun i hi => by
              obtain ⟨b', o', e1, h1, h2⟩ := HSM.out (i + 1) (by simp; omega)
              injection e1 with e1
              injection e1 with e1 e2
              subst e1 e2
              refine ⟨gs, off + 1, rfl, h1, ?_⟩
              rw [List.getElem_cons_succ] at h2
              rw [show off + 1 + i = off + (i + 1) by omega]
              exact h2
            have hlx' : r.length ≤ 99 := by omega
            have hli2 : (r.length : Int) ≤ 99 := by omega
            have OW : Hid (∀ o : Nat, v1.cell? ⟨g, o, none⟩ = w.cell? ⟨g, o, none⟩) := fun o => T1.out.on.cell (p := ⟨g, o, none⟩) hgl (fun e => hbg e.symm)
            have OZ : Hid (∀ o : Nat, v1.frozen? ⟨g, o, none⟩ = w.frozen? ⟨g, o, none⟩) := fun o => T1.out.on.frozen (p := ⟨g, o, none⟩) hgl (fun e => hbg e.symm)
            have O1 : Hid (Only2 g b8 w v1) := Only2.of_only T1.out.on
            have hb81 : b8 < v1.heap.size := by omega
            have hg1 : g < v1.heap.size := by omega
            have HCAP : Hid (r.length ≤ sc) := by show r.length ≤ sc; omega
            have FZ : Hid (∀ o : Nat, o < fs.length * 3 → w.frozen? ⟨g, o, none⟩ = false) := fun o ho => (HFO.out.any o ho).2
            clear HSM hcv
            cases fr with
            | true =>
              have HY := HYS.out _ _ (show tryF (q, d, s :: r) true = some _ by unfold tryF dueOf; simp only [if_true]; rw [if_pos (by omega)])
              have HY : Hid (findT fs (comeOf fs.length at' fresh fs.length) = some ((m : Int), (q, (if r.length = 0 then 0 else d + q - s), r), s)) := HY
              clear HNX HYS
              have r1 : IntKind.i64.wrap (d + q) = d + q := by simp only [IntKind.wrap_i64, wrap64]; omega
              go_wp2
              refine region_late (S := fun w' => w'.cell? ⟨g, m * 3, none⟩ = some (.int .i64 q) ∧ w'.cell? ⟨g, m * 3 + 1, none⟩ = some (.int .i64 d)) 12 (by kernel_rfl) (⟨by rw [World.cell?_drew]; exact d0, by rw [World.cell?_drew]; exact d1⟩) (fun hS => ?_)
              refine late_take (i := 0) (v := ?_) rfl (by kernel_rfl) (by kernel_rfl) (by kernel_rfl) (by kernel_rfl) (fun _ _ _ h => h) (Or.inl ⟨by rfl, ?_⟩) (by assumption) ?_
              rotate_left 1
              · (intro w' hSw; (try dsimp only at hSw); go_simp; try with_reducible rfl)
              try simp only [Act.put, List.setIfInBounds_toArray, List.set_cons_zero, List.set_cons_succ, List.getElem_toArray, List.getElem_cons_succ, List.getElem_cons_zero]
              refine late_take (i := 1) (v := ?_) rfl (by kernel_rfl) (by kernel_rfl) (by kernel_rfl) (by kernel_rfl) (fun _ _ _ h => h) (Or.inl ⟨by rfl, ?_⟩) (by assumption) ?_
              rotate_left 1
              · (intro w' hSw; (try dsimp only at hSw); go_simp; try with_reducible rfl)
              try simp only [Act.put, List.setIfInBounds_toArray, List.set_cons_zero, List.set_cons_succ, List.getElem_toArray, List.getElem_cons_succ, List.getElem_cons_zero]
              refine late_take (i := 2) (v := ?_) rfl (by kernel_rfl) (by kernel_rfl) (by kernel_rfl) (by kernel_rfl) (fun _ _ _ h => h) (Or.inl ⟨by rfl, ?_⟩) (by assumption) ?_
              rotate_left 1
              · (intro w' hSw; (try dsimp only at hSw); go_simp; try with_reducible rfl)
              try simp only [Act.put, List.setIfInBounds_toArray, List.set_cons_zero, List.set_cons_succ, List.getElem_toArray, List.getElem_cons_succ, List.getElem_cons_zero]
              refine late_take (i := 3) (v := ?_) rfl (by kernel_rfl) (by kernel_rfl) (by kernel_rfl) (by kernel_rfl) (fun _ _ _ h => h) (Or.inl ⟨by rfl, ?_⟩) (by assumption) ?_
              rotate_left 1
              · (intro w' hSw; (try dsimp only at hSw); go_simp; try with_reducible rfl)
              try simp only [Act.put, List.setIfInBounds_toArray, List.set_cons_zero, List.set_cons_succ, List.getElem_toArray, List.getElem_cons_succ, List.getElem_cons_zero]
              refine late_take (i := 4) (v := ?_) rfl (by kernel_rfl) (by kernel_rfl) (by kernel_rfl) (by kernel_rfl) (fun _ _ _ h => h) (Or.inl ⟨by rfl, ?_⟩) (by assumption) ?_
              rotate_left 1
              · (intro w' hSw; (try dsimp only at hSw); go_simp; try with_reducible rfl)
              try simp only [Act.put, List.setIfInBounds_toArray, List.set_cons_zero, List.set_cons_succ, List.getElem_toArray, List.getElem_cons_succ, List.getElem_cons_zero]
              refine late_take (i := 5) (v := ?_) rfl (by kernel_rfl) (by kernel_rfl) (by kernel_rfl) (by kernel_rfl) (fun _ _ _ h => h) (Or.inl ⟨by rfl, ?_⟩) (by assumption) ?_
              rotate_left 1
              · (intro w' hSw; (try dsimp only at hSw); go_simp; try with_reducible rfl)
              try simp only [Act.put, List.setIfInBounds_toArray, List.set_cons_zero, List.set_cons_succ, List.getElem_toArray, List.getElem_cons_succ, List.getElem_cons_zero]
              refine late_take (i := 6) (v := ?_) rfl (by kernel_rfl) (by kernel_rfl) (by kernel_rfl) (by kernel_rfl) (fun _ _ _ h => h) (Or.inl ⟨by rfl, ?_⟩) (by assumption) ?_
              rotate_left 1
              · (intro w' hSw; (try dsimp only at hSw); go_simp; try with_reducible rfl)
              try simp only [Act.put, List.setIfInBounds_toArray, List.set_cons_zero, List.set_cons_succ, List.getElem_toArray, List.getElem_cons_succ, List.getElem_cons_zero]
              refine late_take (i := 7) (v := ?_) rfl (by kernel_rfl) (by kernel_rfl) (by kernel_rfl) (by kernel_rfl) (fun _ _ _ h => h) (Or.inl ⟨by rfl, ?_⟩) (by assumption) ?_
              rotate_left 1
              · (intro w' hSw; (try dsimp only at hSw); go_simp; try with_reducible rfl)
              try simp only [Act.put, List.setIfInBounds_toArray, List.set_cons_zero, List.set_cons_succ, List.getElem_toArray, List.getElem_cons_succ, List.getElem_cons_zero]
              refine late_take (i := 8) (v := ?_) rfl (by kernel_rfl) (by kernel_rfl) (by kernel_rfl) (by kernel_rfl) (fun _ _ _ h => h) (Or.inl ⟨by rfl, ?_⟩) (by assumption) ?_
              rotate_left 1
              · (intro w' hSw; (try dsimp only at hSw); go_simp; try with_reducible rfl)
              try simp only [Act.put, List.setIfInBounds_toArray, List.set_cons_zero, List.set_cons_succ, List.getElem_toArray, List.getElem_cons_succ, List.getElem_cons_zero]
              refine late_take (i := 9) (v := ?_) rfl (by kernel_rfl) (by kernel_rfl) (by kernel_rfl) (by kernel_rfl) (fun _ _ _ h => h) (Or.inl ⟨by rfl, ?_⟩) (by assumption) ?_
              rotate_left 1
              · (intro w' hSw; (try dsimp only at hSw); go_simp; try with_reducible rfl)
              try simp only [Act.put, List.setIfInBounds_toArray, List.set_cons_zero, List.set_cons_succ, List.getElem_toArray, List.getElem_cons_succ, List.getElem_cons_zero]
              refine late_one (i := 10) (by kernel_rfl) rfl (fun K hK => ?_)
              go_simp
              refine hK.out _ _ (by assumption) (fun _ => ?_)
              try simp only [Act.put, List.setIfInBounds_toArray, List.set_cons_zero, List.set_cons_succ, List.getElem_toArray, List.getElem_cons_succ, List.getElem_cons_zero]
              refine late_take (i := 11) (v := ?_) rfl (by kernel_rfl) (by kernel_rfl) (by kernel_rfl) (by kernel_rfl) (fun _ _ _ h => h) (Or.inl ⟨by rfl, ?_⟩) (by assumption) ?_
              rotate_left 1
              · (intro w' hSw; (try dsimp only at hSw); go_simp; try with_reducible rfl)
              try simp only [Act.put, List.setIfInBounds_toArray, List.set_cons_zero, List.set_cons_succ, List.getElem_toArray, List.getElem_cons_succ, List.getElem_cons_zero]
              refine late_last (by kernel_rfl) rfl (by kernel_rfl) (fun K hK => ?_)
              go_simp
              refine hK.out _ _ ?_
              try simp only [Act.put, List.setIfInBounds_toArray, List.set_cons_zero, List.set_cons_succ, List.getElem_toArray, List.getElem_cons_succ, List.getElem_cons_zero]
              obtain ⟨v2, hv2⟩ : ∃ v2, v2 = (v1.setCell ⟨g, m * 3 + 1, none⟩ (.int .i64 (d + q))).drew := ⟨_, rfl⟩
              rw [← hv2]
              have p8 : v2.cell? ⟨b8, 2, none⟩ = some (.bool true) := by rw [hv2, World.cell?_drew]; exact (set_far (fun e => hbg e.symm)).trans y2
              have pf : v2.frozen? ⟨b8, 2, none⟩ = false := by rw [hv2]; simpa using yf 2
              have P0 : Hid (v2 = (v1.setCell ⟨g, m * 3 + 1, none⟩ (.int .i64 (d + q))).drew) := hv2
              clear hv2
              go_upto_region 13 with (fail)
              obtain ⟨V, hV⟩ : ∃ V, V = v2.setCell ⟨b8, 2, none⟩ (.bool false) := ⟨_, rfl⟩
              rw [← hV]
              rw [P0.out] at hV
              have e0 : V.cell? ⟨g, m * 3, none⟩ = some (.int .i64 q) := by rw [hV]; exact (set_far hbg).trans ((World.cell?_drew ..).trans ((set_other (by omega)).trans d0))
              have e1 : V.cell? ⟨g, m * 3 + 1, none⟩ = some (.int .i64 (d + q)) := by rw [hV]; exact (set_far hbg).trans ((World.cell?_drew ..).trans (set_same _ d1))
              have e2 : V.cell? ⟨g, m * 3 + 2, none⟩ = some (.slice (some ⟨gs, off, none⟩) (r.length + 1) (sc + 1)) := by rw [hV]; exact (set_far hbg).trans ((World.cell?_drew ..).trans ((set_other (by omega)).trans d2))
              have es : V.cell? ⟨gs, off, none⟩ = some (.int .i64 s) := by rw [hV]; exact (set_far (fun e => hgs8 e.symm)).trans ((World.cell?_drew ..).trans ((set_far (fun e => hgsg e.symm)).trans hcs))
              have x0 : V.cell? ⟨b8, 0, none⟩ = some (.slice (some ⟨g, 0, none⟩) fs.length cap) := by rw [hV]; exact (set_other (by decide)).trans ((World.cell?_drew ..).trans ((set_far (fun e => hbg e.symm)).trans y0))
              have x1 : V.cell? ⟨b8, 1, none⟩ = some (.int .i64 (m : Int)) := by rw [hV]; exact (set_other (by decide)).trans ((World.cell?_drew ..).trans ((set_far (fun e => hbg e.symm)).trans y1))
              have x2 : V.cell? ⟨b8, 2, none⟩ = some (.bool false) := by rw [hV, ← P0.out]; exact set_same _ p8
              have xf : ∀ o : Nat, V.frozen? ⟨b8, o, none⟩ = false := fun o => by rw [hV]; simpa using yf o
              have OF : Hid (∀ o : Nat, V.frozen? ⟨g, o, none⟩ = w.frozen? ⟨g, o, none⟩) := fun o => by rw [hV]; simpa using OZ.out o
              have OC : Hid (∀ o : Nat, o ≠ m * 3 + 1 → V.cell? ⟨g, o, none⟩ = w.cell? ⟨g, o, none⟩) := fun o ho => by rw [hV]; exact (set_far hbg).trans ((World.cell?_drew ..).trans ((set_other (by omega)).trans (OW.out o)))
              have OV : Hid (Only2 g b8 w V) := by rw [hV]; exact (O1.out.setA _).drew.setB _
              have RS : Hid (ISmp V.heap.size V (some ⟨gs, off + 1, none⟩) r) := by
                rw [hV]
                have h1 : ISmp v1.heap.size (v1.setCell ⟨g, m * 3 + 1, none⟩ (.int .i64 (d + q))).drew (some ⟨gs, off + 1, none⟩) r := HRS.out.set (fun e => hgsg e.symm)
                have h2 := h1.set (b := b8) (i := 2) (v := .bool false) (fun e => hgs8 e.symm)
                show ISmp _ _ _ _
                simpa using h2
              have hgV : g < V.heap.size := by rw [hV]; simpa using hg1
              have hbV : b8 < V.heap.size := by rw [hV]; simpa using hb81
              have hgsV : gs < V.heap.size := by rw [hV]; simpa using hgs
              clear hV P0 p8 pf d0 d1 d2 hcs y0 y1 y2 yf df0 df1 df2
              have hV1 := OV.out.size
              have ef1 : V.frozen? ⟨g, m * 3 + 1, none⟩ = false := (OF.out _).trans (FZ.out _ (by omega))
              obtain ⟨D, hD⟩ : ∃ D, d + q = D := ⟨_, rfl⟩
              have hDs : s ≤ D := by omega
              have hDb : D ≤ 3000000000 := by omega
              rw [hD] at e1 HY ⊢
              clear hD r1
              have r2 : IntKind.i64.wrap (D - s) = D - s := by simp only [IntKind.wrap_i64, wrap64]; omega
              go_upto_region 16 with (fail)
              obtain ⟨V3, hV3⟩ : ∃ V3, V3 = V.setCell ⟨g, m * 3 + 1, none⟩ (.int .i64 (D - s)) := ⟨_, rfl⟩
              rw [← hV3]
              have a0' : V3.cell? ⟨g, m * 3, none⟩ = some (.int .i64 q) := by rw [hV3]; exact (set_other (by omega)).trans e0
              have a1' : V3.cell? ⟨g, m * 3 + 1, none⟩ = some (.int .i64 (D - s)) := by rw [hV3]; exact set_same _ e1
              have a2' : V3.cell? ⟨g, m * 3 + 2, none⟩ = some (.slice (some ⟨gs, off, none⟩) (r.length + 1) (sc + 1)) := by rw [hV3]; exact (set_other (by omega)).trans e2
              have b0' : V3.cell? ⟨b8, 0, none⟩ = some (.slice (some ⟨g, 0, none⟩) fs.length cap) := by rw [hV3]; exact (set_far (fun e => hbg e.symm)).trans x0
              have b1' : V3.cell? ⟨b8, 1, none⟩ = some (.int .i64 (m : Int)) := by rw [hV3]; exact (set_far (fun e => hbg e.symm)).trans x1
              have b2' : V3.cell? ⟨b8, 2, none⟩ = some (.bool false) := by rw [hV3]; exact (set_far (fun e => hbg e.symm)).trans x2
              have bf' : ∀ o : Nat, V3.frozen? ⟨b8, o, none⟩ = false := fun o => by rw [hV3]; simpa using xf o
              have af' : ∀ o : Nat, V3.frozen? ⟨g, o, none⟩ = w.frozen? ⟨g, o, none⟩ := fun o => by rw [hV3]; simpa using OF.out o
              have AF : Hid (∀ o : Nat, V3.frozen? ⟨g, o, none⟩ = w.frozen? ⟨g, o, none⟩) := af'
              have BF : Hid (∀ o : Nat, V3.frozen? ⟨b8, o, none⟩ = false) := bf'
              have AC : Hid (∀ o : Nat, o ≠ m * 3 + 1 → V3.cell? ⟨g, o, none⟩ = w.cell? ⟨g, o, none⟩) := fun o ho => by rw [hV3]; exact (set_other (by omega)).trans (OC.out o ho)
              have O3 : Hid (Only2 g b8 w V3) := by rw [hV3]; exact OV.out.setA _
              have RS3 : Hid (ISmp V3.heap.size V3 (some ⟨gs, off + 1, none⟩) r) := by (rw [hV3]; have h2 := RS.out.set (b := g) (i := m * 3 + 1) (v := .int .i64 (D - s)) (fun e => hgsg e.symm); show ISmp _ _ _ _; simpa using h2)
              have hg3 : g < V3.heap.size := by rw [hV3]; simpa using hgV
              have hb3 : b8 < V3.heap.size := by rw [hV3]; simpa using hbV
              have hw3 : w.heap.size ≤ V3.heap.size := O3.out.size
              have hgs3 : gs < V3.heap.size := by rw [hV3]; simpa using hgsV
              have hcs3 : V3.cell? ⟨gs, off, none⟩ = some (.int .i64 s) := by rw [hV3]; exact (set_far (fun e => hgsg e.symm)).trans es
              clear hV3 e0 e1 e2 es x0 x1 x2 xf af' bf'
              have RSA : Hid (ISmp V3.heap.size (V3.alloc (.cells #[] 2)) (some ⟨gs, off + 1, none⟩) r) := RS3.out.mono (newB _ _)
              have RSB : Hid (r = [] → ISmp V3.heap.size (V3.alloc (.cells #[] 2)) (some ⟨gs, off, none⟩) []) := fun _ => ismp_nil _ _ _
              cases sc with
              | zero =>
                obtain rfl : r = [] := List.eq_nil_of_length_eq_zero (by have := HCAP.out; omega)
                go_upto_region 17 with (first | (at_builtin; refine wpList_append_smp (by rfl) _ _ 51 rfl V3.heap.size 2 i0 _ Try.underlying51 hi0 hz0 hz1' hz2 rfl _ 0 [] rfl (own_none1 V3 _ _ rfl (Nat.le_refl _) _) (some ⟨gs, off, none⟩) 0 V3.heap.size [] rfl (RSB.out rfl) (by simp) (by simp) ?_; intro v' w6 own6 gr6; have hb6 : Below V3.heap.size V3 w6 := ((Below.refl _ V3).alloc (Nat.le_refl _) _).grown gr6 (by simp) (fun k hk => Nat.le_of_eq (Option.some.inj hk)); rw [Nat.zero_add, List.nil_append] at own6; obtain ⟨fa, fc, rfl⟩ := own_slice own6; have u2 : w6.cell? ⟨g, m * 3 + 2, none⟩ = some (.slice (some ⟨gs, off, none⟩) _ _) := (hb6.cell (p := ⟨g, m * 3 + 2, none⟩) hg3).trans a2'; have uf2 : w6.frozen? ⟨g, m * 3 + 2, none⟩ = false := (hb6.frozen (p := ⟨g, m * 3 + 2, none⟩) hg3).trans ((AF.out _).trans (FZ.out _ (by omega)))))
                obtain ⟨V4, hV4⟩ : ∃ V4, V4 = w6.setCell ⟨g, m * 3 + 2, none⟩ (.slice fa 0 fc) := ⟨_, rfl⟩
                rw [← hV4]
                have g1 : V4.cell? ⟨g, m * 3 + 1, none⟩ = some (.int .i64 (D - s)) := by rw [hV4]; exact (set_other (by omega)).trans ((hb6.cell (p := ⟨g, m * 3 + 1, none⟩) hg3).trans a1')
                have g2 : V4.cell? ⟨g, m * 3 + 2, none⟩ = some (.slice fa 0 fc) := by rw [hV4]; exact set_same _ u2
                have q1 : V4.cell? ⟨b8, 1, none⟩ = some (.int .i64 (m : Int)) := by rw [hV4]; exact (set_far (fun e => hbg e.symm)).trans ((hb6.cell (p := ⟨b8, 1, none⟩) hb3).trans b1')
                have gf1 : V4.frozen? ⟨g, m * 3 + 1, none⟩ = false := by rw [hV4, World.frozen?_setCell]; exact (hb6.frozen (p := ⟨g, m * 3 + 1, none⟩) hg3).trans ((AF.out _).trans (FZ.out _ (by omega)))
                have HEND : Hid (SlPost2 w lo b8 g vs fs cap at' fresh (.returned (.tuple #[.int .i64 (m : Int), .int .i64 s])) (V4.setCell ⟨g, m * 3 + 1, none⟩ (.int .i64 0))) := by
                  rw [hV4]
                  exact sl_end0 HFO.out HA.out hb8 hm O3.out AC.out AF.out BF.out a0' a1' a2' b0' b1' b2' hb6 own6 (HY.out.trans (by simp))
                clear hV4 u2 uf2 a0' a1' a2' b0' b1' b2' own6 gr6 hb6
                go_wp2
                try rw [Exit.noGoto_ret]
                go_ret2
                exact HEND.out
              | succ sc =>
                have hscn : ¬ (sc + 1 = 0) := by omega
                go_upto_region 17 with (first | (at_builtin; refine wpList_append_smp (by rfl) _ _ 51 rfl V3.heap.size 2 i0 _ Try.underlying51 hi0 hz0 hz1' hz2 rfl _ 0 [] rfl (own_none1 V3 _ _ rfl (Nat.le_refl _) _) (some ⟨gs, off + 1, none⟩) (sc + 1) V3.heap.size r rfl RSA.out (by omega) (by simp) ?_; intro v' w6 own6 gr6; have hb6 : Below V3.heap.size V3 w6 := ((Below.refl _ V3).alloc (Nat.le_refl _) _).grown gr6 (by simp) (fun k hk => Nat.le_of_eq (Option.some.inj hk)); rw [Nat.zero_add, List.nil_append] at own6; obtain ⟨fa, fc, rfl⟩ := own_slice own6; have u2 : w6.cell? ⟨g, m * 3 + 2, none⟩ = some (.slice (some ⟨gs, off, none⟩) _ _) := (hb6.cell (p := ⟨g, m * 3 + 2, none⟩) hg3).trans a2'; have uf2 : w6.frozen? ⟨g, m * 3 + 2, none⟩ = false := (hb6.frozen (p := ⟨g, m * 3 + 2, none⟩) hg3).trans ((AF.out _).trans (FZ.out _ (by omega)))))
                by_cases hr0 : r.length = 0
                · obtain rfl : r = [] := List.eq_nil_of_length_eq_zero hr0
                  obtain ⟨V4, hV4⟩ : ∃ V4, V4 = w6.setCell ⟨g, m * 3 + 2, none⟩ (.slice fa ([] : List Int).length fc) := ⟨_, rfl⟩
                  rw [← hV4]
                  have g1 : V4.cell? ⟨g, m * 3 + 1, none⟩ = some (.int .i64 (D - s)) := by rw [hV4]; exact (set_other (by omega)).trans ((hb6.cell (p := ⟨g, m * 3 + 1, none⟩) hg3).trans a1')
                  have g2 : V4.cell? ⟨g, m * 3 + 2, none⟩ = some (.slice fa ([] : List Int).length fc) := by rw [hV4]; exact set_same _ u2
                  have q1 : V4.cell? ⟨b8, 1, none⟩ = some (.int .i64 (m : Int)) := by rw [hV4]; exact (set_far (fun e => hbg e.symm)).trans ((hb6.cell (p := ⟨b8, 1, none⟩) hb3).trans b1')
                  have gf1 : V4.frozen? ⟨g, m * 3 + 1, none⟩ = false := by rw [hV4, World.frozen?_setCell]; exact (hb6.frozen (p := ⟨g, m * 3 + 1, none⟩) hg3).trans ((AF.out _).trans (FZ.out _ (by omega)))
                  have HEND : Hid (SlPost2 w lo b8 g vs fs cap at' fresh (.returned (.tuple #[.int .i64 (m : Int), .int .i64 s])) (V4.setCell ⟨g, m * 3 + 1, none⟩ (.int .i64 0))) := by
                    rw [hV4]
                    exact sl_end0 HFO.out HA.out hb8 hm O3.out AC.out AF.out BF.out a0' a1' a2' b0' b1' b2' hb6 own6 (HY.out.trans (by simp))
                  clear hV4 u2 uf2 a0' a1' a2' b0' b1' b2' own6 gr6 hb6
                  go_wp2
                  try rw [Exit.noGoto_ret]
                  go_ret2
                  exact HEND.out
                · have hr0' : ((r.length : Int) == 0) = false := by rw [beq_eq_false_iff_ne]; omega
                  have hr1 : ¬ (r = []) := fun e => hr0 (by rw [e]; rfl)
                  obtain ⟨V4, hV4⟩ : ∃ V4, V4 = w6.setCell ⟨g, m * 3 + 2, none⟩ (.slice fa r.length fc) := ⟨_, rfl⟩
                  rw [← hV4]
                  have g1 : V4.cell? ⟨g, m * 3 + 1, none⟩ = some (.int .i64 (D - s)) := by rw [hV4]; exact (set_other (by omega)).trans ((hb6.cell (p := ⟨g, m * 3 + 1, none⟩) hg3).trans a1')
                  have g2 : V4.cell? ⟨g, m * 3 + 2, none⟩ = some (.slice fa r.length fc) := by rw [hV4]; exact set_same _ u2
                  have q1 : V4.cell? ⟨b8, 1, none⟩ = some (.int .i64 (m : Int)) := by rw [hV4]; exact (set_far (fun e => hbg e.symm)).trans ((hb6.cell (p := ⟨b8, 1, none⟩) hb3).trans b1')
                  have gf1 : V4.frozen? ⟨g, m * 3 + 1, none⟩ = false := by rw [hV4, World.frozen?_setCell]; exact (hb6.frozen (p := ⟨g, m * 3 + 1, none⟩) hg3).trans ((AF.out _).trans (FZ.out _ (by omega)))
                  have HEND : Hid (SlPost2 w lo b8 g vs fs cap at' fresh (.returned (.tuple #[.int .i64 (m : Int), .int .i64 s])) V4) := by
                    rw [hV4]
                    exact sl_end1 HFO.out HA.out hb8 hm O3.out AC.out AF.out BF.out a0' a1' a2' b0' b1' b2' hb6 own6 (HY.out.trans (by rw [if_neg hr0]))
                  clear hV4 u2 uf2 a0' a1' a2' b0' b1' b2' own6 gr6 hb6
                  go_wp2
                  try rw [Exit.noGoto_ret]
                  go_ret2
                  exact HEND.out
            | false =>
              by_cases hle : s ≤ d
              · have HY := HYS.out _ _ (show tryF (q, d, s :: r) false = some _ by unfold tryF dueOf; simp only [Bool.false_eq_true, if_false]; rw [if_pos hle])
                have HY : Hid (findT fs (comeOf fs.length at' fresh fs.length) = some ((m : Int), (q, (if r.length = 0 then 0 else d - s), r), s)) := HY
                clear HNX HYS
                have hDs : s ≤ d := hle
                have r2 : IntKind.i64.wrap (d - s) = d - s := by simp only [IntKind.wrap_i64, wrap64]; omega
                have OF : Hid (∀ o : Nat, v1.frozen? ⟨g, o, none⟩ = w.frozen? ⟨g, o, none⟩) := OZ.out
                have OC : Hid (∀ o : Nat, o ≠ m * 3 + 1 → v1.cell? ⟨g, o, none⟩ = w.cell? ⟨g, o, none⟩) := fun o _ => OW.out o
                go_upto_region 16 with (fail)
                obtain ⟨V3, hV3⟩ : ∃ V3, V3 = v1.setCell ⟨g, m * 3 + 1, none⟩ (.int .i64 (d - s)) := ⟨_, rfl⟩
                rw [← hV3]
                have a0' : V3.cell? ⟨g, m * 3, none⟩ = some (.int .i64 q) := by rw [hV3]; exact (set_other (by omega)).trans d0
                have a1' : V3.cell? ⟨g, m * 3 + 1, none⟩ = some (.int .i64 (d - s)) := by rw [hV3]; exact set_same _ d1
                have a2' : V3.cell? ⟨g, m * 3 + 2, none⟩ = some (.slice (some ⟨gs, off, none⟩) (r.length + 1) (sc + 1)) := by rw [hV3]; exact (set_other (by omega)).trans d2
                have b0' : V3.cell? ⟨b8, 0, none⟩ = some (.slice (some ⟨g, 0, none⟩) fs.length cap) := by rw [hV3]; exact (set_far (fun e => hbg e.symm)).trans y0
                have b1' : V3.cell? ⟨b8, 1, none⟩ = some (.int .i64 (m : Int)) := by rw [hV3]; exact (set_far (fun e => hbg e.symm)).trans y1
                have b2' : V3.cell? ⟨b8, 2, none⟩ = some (.bool false) := by rw [hV3]; exact (set_far (fun e => hbg e.symm)).trans y2
                have bf' : ∀ o : Nat, V3.frozen? ⟨b8, o, none⟩ = false := fun o => by rw [hV3]; simpa using yf o
                have af' : ∀ o : Nat, V3.frozen? ⟨g, o, none⟩ = w.frozen? ⟨g, o, none⟩ := fun o => by rw [hV3]; simpa using OF.out o
                have AF : Hid (∀ o : Nat, V3.frozen? ⟨g, o, none⟩ = w.frozen? ⟨g, o, none⟩) := af'
                have BF : Hid (∀ o : Nat, V3.frozen? ⟨b8, o, none⟩ = false) := bf'
                have AC : Hid (∀ o : Nat, o ≠ m * 3 + 1 → V3.cell? ⟨g, o, none⟩ = w.cell? ⟨g, o, none⟩) := fun o ho => by rw [hV3]; exact (set_other (by omega)).trans (OC.out o ho)
                have O3 : Hid (Only2 g b8 w V3) := by rw [hV3]; exact O1.out.setA _
                have RS3 : Hid (ISmp V3.heap.size V3 (some ⟨gs, off + 1, none⟩) r) := by (rw [hV3]; have h2 := HRS.out.set (b := g) (i := m * 3 + 1) (v := .int .i64 (d - s)) (fun e => hgsg e.symm); show ISmp _ _ _ _; simpa using h2)
                have hg3 : g < V3.heap.size := by rw [hV3]; simpa using hg1
                have hb3 : b8 < V3.heap.size := by rw [hV3]; simpa using hb81
                have hw3 : w.heap.size ≤ V3.heap.size := O3.out.size
                have hgs3 : gs < V3.heap.size := by rw [hV3]; simpa using hgs
                have hcs3 : V3.cell? ⟨gs, off, none⟩ = some (.int .i64 s) := by rw [hV3]; exact (set_far (fun e => hgsg e.symm)).trans hcs
                clear hV3 d0 d1 d2 hcs y0 y1 y2 yf af' bf'
                have RSA : Hid (ISmp V3.heap.size (V3.alloc (.cells #[] 2)) (some ⟨gs, off + 1, none⟩) r) := RS3.out.mono (newB _ _)
                have RSB : Hid (r = [] → ISmp V3.heap.size (V3.alloc (.cells #[] 2)) (some ⟨gs, off, none⟩) []) := fun _ => ismp_nil _ _ _
                cases sc with
                | zero =>
                  obtain rfl : r = [] := List.eq_nil_of_length_eq_zero (by have := HCAP.out; omega)
                  go_upto_region 17 with (first | (at_builtin; refine wpList_append_smp (by rfl) _ _ 51 rfl V3.heap.size 2 i0 _ Try.underlying51 hi0 hz0 hz1' hz2 rfl _ 0 [] rfl (own_none1 V3 _ _ rfl (Nat.le_refl _) _) (some ⟨gs, off, none⟩) 0 V3.heap.size [] rfl (RSB.out rfl) (by simp) (by simp) ?_; intro v' w6 own6 gr6; have hb6 : Below V3.heap.size V3 w6 := ((Below.refl _ V3).alloc (Nat.le_refl _) _).grown gr6 (by simp) (fun k hk => Nat.le_of_eq (Option.some.inj hk)); rw [Nat.zero_add, List.nil_append] at own6; obtain ⟨fa, fc, rfl⟩ := own_slice own6; have u2 : w6.cell? ⟨g, m * 3 + 2, none⟩ = some (.slice (some ⟨gs, off, none⟩) _ _) := (hb6.cell (p := ⟨g, m * 3 + 2, none⟩) hg3).trans a2'; have uf2 : w6.frozen? ⟨g, m * 3 + 2, none⟩ = false := (hb6.frozen (p := ⟨g, m * 3 + 2, none⟩) hg3).trans ((AF.out _).trans (FZ.out _ (by omega)))))
                  obtain ⟨V4, hV4⟩ : ∃ V4, V4 = w6.setCell ⟨g, m * 3 + 2, none⟩ (.slice fa 0 fc) := ⟨_, rfl⟩
                  rw [← hV4]
                  have g1 : V4.cell? ⟨g, m * 3 + 1, none⟩ = some (.int .i64 (d - s)) := by rw [hV4]; exact (set_other (by omega)).trans ((hb6.cell (p := ⟨g, m * 3 + 1, none⟩) hg3).trans a1')
                  have g2 : V4.cell? ⟨g, m * 3 + 2, none⟩ = some (.slice fa 0 fc) := by rw [hV4]; exact set_same _ u2
                  have q1 : V4.cell? ⟨b8, 1, none⟩ = some (.int .i64 (m : Int)) := by rw [hV4]; exact (set_far (fun e => hbg e.symm)).trans ((hb6.cell (p := ⟨b8, 1, none⟩) hb3).trans b1')
                  have gf1 : V4.frozen? ⟨g, m * 3 + 1, none⟩ = false := by rw [hV4, World.frozen?_setCell]; exact (hb6.frozen (p := ⟨g, m * 3 + 1, none⟩) hg3).trans ((AF.out _).trans (FZ.out _ (by omega)))
                  have HEND : Hid (SlPost2 w lo b8 g vs fs cap at' fresh (.returned (.tuple #[.int .i64 (m : Int), .int .i64 s])) (V4.setCell ⟨g, m * 3 + 1, none⟩ (.int .i64 0))) := by
                    rw [hV4]
                    exact sl_end0 HFO.out HA.out hb8 hm O3.out AC.out AF.out BF.out a0' a1' a2' b0' b1' b2' hb6 own6 (HY.out.trans (by simp))
                  clear hV4 u2 uf2 a0' a1' a2' b0' b1' b2' own6 gr6 hb6
                  go_wp2
                  try rw [Exit.noGoto_ret]
                  go_ret2
                  exact HEND.out
                | succ sc =>
                  have hscn : ¬ (sc + 1 = 0) := by omega
                  go_upto_region 17 with (first | (at_builtin; refine wpList_append_smp (by rfl) _ _ 51 rfl V3.heap.size 2 i0 _ Try.underlying51 hi0 hz0 hz1' hz2 rfl _ 0 [] rfl (own_none1 V3 _ _ rfl (Nat.le_refl _) _) (some ⟨gs, off + 1, none⟩) (sc + 1) V3.heap.size r rfl RSA.out (by omega) (by simp) ?_; intro v' w6 own6 gr6; have hb6 : Below V3.heap.size V3 w6 := ((Below.refl _ V3).alloc (Nat.le_refl _) _).grown gr6 (by simp) (fun k hk => Nat.le_of_eq (Option.some.inj hk)); rw [Nat.zero_add, List.nil_append] at own6; obtain ⟨fa, fc, rfl⟩ := own_slice own6; have u2 : w6.cell? ⟨g, m * 3 + 2, none⟩ = some (.slice (some ⟨gs, off, none⟩) _ _) := (hb6.cell (p := ⟨g, m * 3 + 2, none⟩) hg3).trans a2'; have uf2 : w6.frozen? ⟨g, m * 3 + 2, none⟩ = false := (hb6.frozen (p := ⟨g, m * 3 + 2, none⟩) hg3).trans ((AF.out _).trans (FZ.out _ (by omega)))))
                  by_cases hr0 : r.length = 0
                  · obtain rfl : r = [] := List.eq_nil_of_length_eq_zero hr0
                    obtain ⟨V4, hV4⟩ : ∃ V4, V4 = w6.setCell ⟨g, m * 3 + 2, none⟩ (.slice fa ([] : List Int).length fc) := ⟨_, rfl⟩
                    rw [← hV4]
                    have g1 : V4.cell? ⟨g, m * 3 + 1, none⟩ = some (.int .i64 (d - s)) := by rw [hV4]; exact (set_other (by omega)).trans ((hb6.cell (p := ⟨g, m * 3 + 1, none⟩) hg3).trans a1')
                    have g2 : V4.cell? ⟨g, m * 3 + 2, none⟩ = some (.slice fa ([] : List Int).length fc) := by rw [hV4]; exact set_same _ u2
                    have q1 : V4.cell? ⟨b8, 1, none⟩ = some (.int .i64 (m : Int)) := by rw [hV4]; exact (set_far (fun e => hbg e.symm)).trans ((hb6.cell (p := ⟨b8, 1, none⟩) hb3).trans b1')
                    have gf1 : V4.frozen? ⟨g, m * 3 + 1, none⟩ = false := by rw [hV4, World.frozen?_setCell]; exact (hb6.frozen (p := ⟨g, m * 3 + 1, none⟩) hg3).trans ((AF.out _).trans (FZ.out _ (by omega)))
                    have HEND : Hid (SlPost2 w lo b8 g vs fs cap at' fresh (.returned (.tuple #[.int .i64 (m : Int), .int .i64 s])) (V4.setCell ⟨g, m * 3 + 1, none⟩ (.int .i64 0))) := by
                      rw [hV4]
                      exact sl_end0 HFO.out HA.out hb8 hm O3.out AC.out AF.out BF.out a0' a1' a2' b0' b1' b2' hb6 own6 (HY.out.trans (by simp))
                    clear hV4 u2 uf2 a0' a1' a2' b0' b1' b2' own6 gr6 hb6
                    go_wp2
                    try rw [Exit.noGoto_ret]
                    go_ret2
                    exact HEND.out
                  · have hr0' : ((r.length : Int) == 0) = false := by rw [beq_eq_false_iff_ne]; omega
                    have hr1 : ¬ (r = []) := fun e => hr0 (by rw [e]; rfl)
                    obtain ⟨V4, hV4⟩ : ∃ V4, V4 = w6.setCell ⟨g, m * 3 + 2, none⟩ (.slice fa r.length fc) := ⟨_, rfl⟩
                    rw [← hV4]
                    have g1 : V4.cell? ⟨g, m * 3 + 1, none⟩ = some (.int .i64 (d - s)) := by rw [hV4]; exact (set_other (by omega)).trans ((hb6.cell (p := ⟨g, m * 3 + 1, none⟩) hg3).trans a1')
                    have g2 : V4.cell? ⟨g, m * 3 + 2, none⟩ = some (.slice fa r.length fc) := by rw [hV4]; exact set_same _ u2
                    have q1 : V4.cell? ⟨b8, 1, none⟩ = some (.int .i64 (m : Int)) := by rw [hV4]; exact (set_far (fun e => hbg e.symm)).trans ((hb6.cell (p := ⟨b8, 1, none⟩) hb3).trans b1')
                    have gf1 : V4.frozen? ⟨g, m * 3 + 1, none⟩ = false := by rw [hV4, World.frozen?_setCell]; exact (hb6.frozen (p := ⟨g, m * 3 + 1, none⟩) hg3).trans ((AF.out _).trans (FZ.out _ (by omega)))
                    have HEND : Hid (SlPost2 w lo b8 g vs fs cap at' fresh (.returned (.tuple #[.int .i64 (m : Int), .int .i64 s])) V4) := by
                      rw [hV4]
                      exact sl_end1 HFO.out HA.out hb8 hm O3.out AC.out AF.out BF.out a0' a1' a2' b0' b1' b2' hb6 own6 (HY.out.trans (by rw [if_neg hr0]))
                    clear hV4 u2 uf2 a0' a1' a2' b0' b1' b2' own6 gr6 hb6
                    go_wp2
                    try rw [Exit.noGoto_ret]
                    go_ret2
                    exact HEND.out
              · have hdt : decide (s ≤ d) = false := decide_eq_false hle
                have HN := HNX.out (by unfold tryF dueOf; simp only [Bool.false_eq_true, if_false]; rw [if_neg hle])
                obtain ⟨hj', en, fd'⟩ := HN
                have HN : Hid (∃ hj' : j + 1 < (comeOf fs.length at' fresh fs.length).length, (comeOf fs.length at' fresh fs.length)[j + 1] = (((m : Int) + 1) % (fs.length : Int), true) ∧ findT fs (comeOf fs.length at' fresh fs.length) = findT fs ((comeOf fs.length at' fresh fs.length).drop (j + 1))) := ⟨hj', en, fd'⟩
                clear hj' en fd'
                go_wp2
                refine region_late (S := fun w' => w'.cell? ⟨b8, 0, none⟩ = some (.slice (some ⟨g, 0, none⟩) fs.length cap) ∧ w'.cell? ⟨b8, 1, none⟩ = some (.int .i64 (m : Int))) 14 (by kernel_rfl) (⟨by rw [World.cell?_drew]; exact y0, by rw [World.cell?_drew]; exact y1⟩) (fun hS => ?_)
                refine late_take (i := 0) (v := ?_) rfl (by kernel_rfl) (by kernel_rfl) (by kernel_rfl) (by kernel_rfl) (fun _ _ _ h => h) (Or.inl ⟨by rfl, ?_⟩) (by assumption) ?_
                rotate_left 1
                · (intro w' hSw; (try dsimp only at hSw); go_simp; try with_reducible rfl)
                try simp only [Act.put, List.setIfInBounds_toArray, List.set_cons_zero, List.set_cons_succ, List.getElem_toArray, List.getElem_cons_succ, List.getElem_cons_zero]
                refine late_take (i := 1) (v := ?_) rfl (by kernel_rfl) (by kernel_rfl) (by kernel_rfl) (by kernel_rfl) (fun _ _ _ h => h) (Or.inl ⟨by rfl, ?_⟩) (by assumption) ?_
                rotate_left 1
                · (intro w' hSw; (try dsimp only at hSw); go_simp; try with_reducible rfl)
                try simp only [Act.put, List.setIfInBounds_toArray, List.set_cons_zero, List.set_cons_succ, List.getElem_toArray, List.getElem_cons_succ, List.getElem_cons_zero]
                refine late_take (i := 2) (v := ?_) rfl (by kernel_rfl) (by kernel_rfl) (by kernel_rfl) (by kernel_rfl) (fun _ _ _ h => h) (Or.inl ⟨by rfl, ?_⟩) (by assumption) ?_
                rotate_left 1
                · (intro w' hSw; (try dsimp only at hSw); go_simp; try with_reducible rfl)
                try simp only [Act.put, List.setIfInBounds_toArray, List.set_cons_zero, List.set_cons_succ, List.getElem_toArray, List.getElem_cons_succ, List.getElem_cons_zero]
                refine late_take (i := 3) (v := ?_) rfl (by kernel_rfl) (by kernel_rfl) (by kernel_rfl) (by kernel_rfl) (fun _ _ _ h => h) (Or.inl ⟨by rfl, ?_⟩) (by assumption) ?_
                rotate_left 1
                · (intro w' hSw; (try dsimp only at hSw); go_simp; try with_reducible rfl)
                try simp only [Act.put, List.setIfInBounds_toArray, List.set_cons_zero, List.set_cons_succ, List.getElem_toArray, List.getElem_cons_succ, List.getElem_cons_zero]
                refine late_take (i := 4) (v := ?_) rfl (by kernel_rfl) (by kernel_rfl) (by kernel_rfl) (by kernel_rfl) (fun _ _ _ h => h) (Or.inl ⟨by rfl, ?_⟩) (by assumption) ?_
                rotate_left 1
                · (intro w' hSw; (try dsimp only at hSw); go_simp; try with_reducible rfl)
                try simp only [Act.put, List.setIfInBounds_toArray, List.set_cons_zero, List.set_cons_succ, List.getElem_toArray, List.getElem_cons_succ, List.getElem_cons_zero]
                refine late_take (i := 5) (v := ?_) rfl (by kernel_rfl) (by kernel_rfl) (by kernel_rfl) (by kernel_rfl) (fun _ _ _ h => h) (Or.inl ⟨by rfl, ?_⟩) (by assumption) ?_
                rotate_left 1
                · (intro w' hSw; (try dsimp only at hSw); go_simp; try with_reducible rfl)
                try simp only [Act.put, List.setIfInBounds_toArray, List.set_cons_zero, List.set_cons_succ, List.getElem_toArray, List.getElem_cons_succ, List.getElem_cons_zero]
                refine late_take (i := 6) (v := ?_) rfl (by kernel_rfl) (by kernel_rfl) (by kernel_rfl) (by kernel_rfl) (fun _ _ _ h => h) (Or.inl ⟨by rfl, ?_⟩) (by assumption) ?_
                rotate_left 1
                · (intro w' hSw; (try dsimp only at hSw); go_simp; try with_reducible rfl)
                try simp only [Act.put, List.setIfInBounds_toArray, List.set_cons_zero, List.set_cons_succ, List.getElem_toArray, List.getElem_cons_succ, List.getElem_cons_zero]
                refine late_take (i := 7) (v := ?_) rfl (by kernel_rfl) (by kernel_rfl) (by kernel_rfl) (by kernel_rfl) (fun _ _ _ h => h) (Or.inl ⟨by rfl, ?_⟩) (by assumption) ?_
                rotate_left 1
                · (intro w' hSw; (try dsimp only at hSw); go_simp; try with_reducible rfl)
                try simp only [Act.put, List.setIfInBounds_toArray, List.set_cons_zero, List.set_cons_succ, List.getElem_toArray, List.getElem_cons_succ, List.getElem_cons_zero]
                refine late_take (i := 8) (v := ?_) rfl (by kernel_rfl) (by kernel_rfl) (by kernel_rfl) (by kernel_rfl) (fun _ _ _ h => h) (Or.inl ⟨by rfl, ?_⟩) (by assumption) ?_
                rotate_left 1
                · (intro w' hSw; (try dsimp only at hSw); go_simp; try with_reducible rfl)
                try simp only [Act.put, List.setIfInBounds_toArray, List.set_cons_zero, List.set_cons_succ, List.getElem_toArray, List.getElem_cons_succ, List.getElem_cons_zero]
                refine late_take (i := 9) (v := ?_) rfl (by kernel_rfl) (by kernel_rfl) (by kernel_rfl) (by kernel_rfl) (fun _ _ _ h => h) (Or.inl ⟨by rfl, ?_⟩) (by assumption) ?_
                rotate_left 1
                · (intro w' hSw; (try dsimp only at hSw); go_simp; try with_reducible rfl)
                try simp only [Act.put, List.setIfInBounds_toArray, List.set_cons_zero, List.set_cons_succ, List.getElem_toArray, List.getElem_cons_succ, List.getElem_cons_zero]
                refine late_take (i := 10) (v := ?_) rfl (by kernel_rfl) (by kernel_rfl) (by kernel_rfl) (by kernel_rfl) (fun _ _ _ h => h) (Or.inl ⟨by rfl, ?_⟩) (by assumption) ?_
                rotate_left 1
                · (intro w' hSw; (try dsimp only at hSw); go_simp; try with_reducible rfl)
                try simp only [Act.put, List.setIfInBounds_toArray, List.set_cons_zero, List.set_cons_succ, List.getElem_toArray, List.getElem_cons_succ, List.getElem_cons_zero]
                refine late_take (i := 11) (v := ?_) rfl (by kernel_rfl) (by kernel_rfl) (by kernel_rfl) (by kernel_rfl) (fun _ _ _ h => h) (Or.inl ⟨by rfl, ?_⟩) (by assumption) ?_
                rotate_left 1
                · (intro w' hSw; (try dsimp only at hSw); go_simp; try with_reducible rfl)
                try simp only [Act.put, List.setIfInBounds_toArray, List.set_cons_zero, List.set_cons_succ, List.getElem_toArray, List.getElem_cons_succ, List.getElem_cons_zero]
                refine late_one (i := 12) (by kernel_rfl) rfl (fun K hK => ?_)
                go_simp
                refine hK.out _ _ (by assumption) (fun _ => ?_)
                try simp only [Act.put, List.setIfInBounds_toArray, List.set_cons_zero, List.set_cons_succ, List.getElem_toArray, List.getElem_cons_succ, List.getElem_cons_zero]
                refine late_take (i := 13) (v := ?_) rfl (by kernel_rfl) (by kernel_rfl) (by kernel_rfl) (by kernel_rfl) (fun _ _ _ h => h) (Or.inl ⟨by rfl, ?_⟩) (by assumption) ?_
                rotate_left 1
                · (intro w' hSw; (try dsimp only at hSw); go_simp; try with_reducible rfl)
                try simp only [Act.put, List.setIfInBounds_toArray, List.set_cons_zero, List.set_cons_succ, List.getElem_toArray, List.getElem_cons_succ, List.getElem_cons_zero]
                refine late_last (by kernel_rfl) rfl (by kernel_rfl) (fun K hK => ?_)
                go_simp
                refine hK.out _ _ ?_
                try simp only [Act.put, List.setIfInBounds_toArray, List.set_cons_zero, List.set_cons_succ, List.getElem_toArray, List.getElem_cons_succ, List.getElem_cons_zero]
                go_wp2
                go_roundg (gk - 1)
                case measure => omega
                case rel =>
                  obtain ⟨hj', en, fd'⟩ := HN.out
                  refine ⟨j + 1, by omega, hj', ?_, fd'⟩
                  rw [en]
                  exact T1.out.next _
theorem l8Serve_any {w : World} {lo hi b8 g : Nat} {vs : List Value} {fs : List F8} (cap : Nat) (at' : Int) (fresh : Bool) (f : FO w lo hi g fs.length vs fs) (hok : TurnsOk fs at' fresh) (ha : Apart8 b8 g vs) (hb8 : b8 < w.heap.size)
    (c0 : w.cell? ⟨b8, 0, none⟩ = some (.slice (some ⟨g, 0, none⟩) fs.length cap)) (c1 : w.cell? ⟨b8, 1, none⟩ = some (.int .i64 at')) (c2 : w.cell? ⟨b8, 2, none⟩ = some (.bool fresh)) (fz : ∀ o : Nat, w.frozen? ⟨b8, o, none⟩ = false) :
    Calls Try.prog 82 #[.pointer (some ⟨b8, 0, none⟩)] w (SlPost w lo b8 g vs fs cap at' fresh) := (l8Serve_two cap at' fresh f hok ha hb8 c0 c1 c2 fz).mono (fun e w' h => h.one)
end Go.Proofs.Ytdgefdjgpneanad
