/- The draw of any Turns: what it holds while one field of it is another. -/
import Derived.Test.YtdgefdjgpneanadDraw8b
namespace Go.Proofs.Ytdgefdjgpneanad
open Go.ChangeShapes Go.WideShapes Go.ChangeAt Go.RowKit
set_option maxRecDepth 100000
set_option linter.unusedVariables false
set_option linter.unusedSimpArgs false

/-- Flows that are owned, or none. -/
def Own8 (w : World) (lo : Nat) (a : Option Addr) (c : Nat) (fs : List F8) (x : Nat) : Prop := fs = [] ∨ ∃ g vs, a = some ⟨g, 0, none⟩ ∧ fs.length ≤ c ∧ FO w lo w.heap.size g fs.length vs fs ∧ Apart8 x g vs
/-- What lies in the answer's place and in the variable bT, and the cursor. -/
structure V8 (B : Nat) (a0 : Option Addr) (len cap b : Nat) (w wr : World) (bT : Nat) (s : Value) (a : Int) (f : Bool) : Prop where
  cur : Cur B a0 len cap b wr
  only : Only b w wr
  lt : b < w.heap.size
  r0 : wr.cell? ⟨w.heap.size, 0, none⟩ = some (.slice none 0 0)
  r1 : wr.cell? ⟨w.heap.size, 1, none⟩ = some (.int .i64 0)
  r2 : wr.cell? ⟨w.heap.size, 2, none⟩ = some (.bool false)
  rf : ∀ o : Nat, wr.frozen? ⟨w.heap.size, o, none⟩ = false
  t0 : wr.cell? ⟨bT, 0, none⟩ = some s
  t1 : wr.cell? ⟨bT, 1, none⟩ = some (.int .i64 a)
  t2 : wr.cell? ⟨bT, 2, none⟩ = some (.bool f)
  tf : ∀ o : Nat, wr.frozen? ⟨bT, o, none⟩ = false
  z0 : w.heap.size < bT
  z1 : bT < wr.heap.size
section
variable {B : Nat} {a0 : Option Addr} {len cap b : Nat} {w wr w2 : World} {bT : Nat} {s : Value} {a : Int} {f : Bool}
/-- Something else has turned, of what the draw made. -/
theorem V8.keep {x : Nat} (h : V8 B a0 len cap b w wr bT s a f) (o : Only x wr w2) (k : Cur B a0 len cap b w2) (oo : Only b w w2) (hx : x ≠ w.heap.size) (hT : x ≠ bT) : V8 B a0 len cap b w w2 bT s a f := by
  have h1 := h.z0
  have h2 := h.z1
  have hc : ∀ y o' : Nat, y < wr.heap.size → y ≠ x → w2.cell? ⟨y, o', none⟩ = wr.cell? ⟨y, o', none⟩ := fun y o' hy hn => o.cell (p := ⟨y, o', none⟩) hy hn
  have hf : ∀ y o' : Nat, y < wr.heap.size → y ≠ x → w2.frozen? ⟨y, o', none⟩ = wr.frozen? ⟨y, o', none⟩ := fun y o' hy hn => o.frozen (p := ⟨y, o', none⟩) hy hn
  exact ⟨k, oo, h.lt, (hc _ 0 (by omega) (by omega)).trans h.r0, (hc _ 1 (by omega) (by omega)).trans h.r1, (hc _ 2 (by omega) (by omega)).trans h.r2, fun o' => (hf _ o' (by omega) (by omega)).trans (h.rf o'), (hc _ 0 h2 (by omega)).trans h.t0, (hc _ 1 h2 (by omega)).trans h.t1, (hc _ 2 h2 (by omega)).trans h.t2, fun o' => (hf _ o' h2 (by omega)).trans (h.tf o'), h.z0, Nat.lt_of_lt_of_le h.z1 o.size⟩
theorem V8.draw (h : V8 B a0 len cap b w wr bT s a f) (o : Only b wr w2) (k : Cur B a0 len cap b w2) : V8 B a0 len cap b w w2 bT s a f := h.keep o k (h.only.trans o) (by have := h.lt; omega) (by have := h.lt; have := h.z0; omega)
theorem V8.next (h : V8 B a0 len cap b w wr bT s a f) (hb : Below wr.heap.size wr w2) : V8 B a0 len cap b w w2 bT s a f := h.draw (Only.of_below hb) (h.cur.mono hb)
theorem V8.other {x : Nat} (h : V8 B a0 len cap b w wr bT s a f) (o : Only x wr w2) (hx : w.heap.size < x) (hT : x ≠ bT) : V8 B a0 len cap b w w2 bT s a f := by
  have h1 := h.lt
  have h2 := h.cur.lo
  exact h.keep o (cur_onlyX h.cur o (.inr ⟨by omega, by omega⟩)) (only_low8 h.only o (by omega)) (by omega) hT
theorem V8.setT {o : Nat} {v : Value} (h : V8 B a0 len cap b w wr bT s a f) : Cur B a0 len cap b (wr.setCell ⟨bT, o, none⟩ v) ∧ Only b w (wr.setCell ⟨bT, o, none⟩ v) := by
  have h1 := h.lt
  have h2 := h.cur.lo
  have h3 := h.z0
  have os : Only bT wr (wr.setCell ⟨bT, o, none⟩ v) := (Only.refl bT wr).setCell (p := ⟨bT, o, none⟩) rfl _
  exact ⟨cur_onlyX h.cur os (.inr ⟨by omega, by omega⟩), only_low8 h.only os (by omega)⟩
theorem V8.set0 (h : V8 B a0 len cap b w wr bT s a f) (v : Value) : V8 B a0 len cap b w (wr.setCell ⟨bT, 0, none⟩ v) bT v a f := by
  have h3 := h.z0
  have k := h.setT (o := 0) (v := v)
  exact ⟨k.1, k.2, h.lt, (set_far (by show bT ≠ w.heap.size; omega)).trans h.r0, (set_far (by show bT ≠ w.heap.size; omega)).trans h.r1, (set_far (by show bT ≠ w.heap.size; omega)).trans h.r2, fun o => by rw [World.frozen?_setCell]; exact h.rf o, set_same _ h.t0, (set_other (by decide)).trans h.t1, (set_other (by decide)).trans h.t2, fun o => by rw [World.frozen?_setCell]; exact h.tf o, h.z0, by simpa using h.z1⟩
theorem V8.set1 (h : V8 B a0 len cap b w wr bT s a f) (z : Int) : V8 B a0 len cap b w (wr.setCell ⟨bT, 1, none⟩ (.int .i64 z)) bT s z f := by
  have h3 := h.z0
  have k := h.setT (o := 1) (v := .int .i64 z)
  exact ⟨k.1, k.2, h.lt, (set_far (by show bT ≠ w.heap.size; omega)).trans h.r0, (set_far (by show bT ≠ w.heap.size; omega)).trans h.r1, (set_far (by show bT ≠ w.heap.size; omega)).trans h.r2, fun o => by rw [World.frozen?_setCell]; exact h.rf o, (set_other (by decide)).trans h.t0, set_same _ h.t1, (set_other (by decide)).trans h.t2, fun o => by rw [World.frozen?_setCell]; exact h.tf o, h.z0, by simpa using h.z1⟩
end
/-- .. with flows that are owned, or none, and not too many sizes. -/
structure U8 (B : Nat) (a0 : Option Addr) (len cap b : Nat) (w wr : World) (bT : Nat) (ad : Option Addr) (c : Nat) (fs : List F8) (a : Int) (f : Bool) : Prop where
  v : V8 B a0 len cap b w wr bT (.slice ad fs.length c) a f
  own : Own8 wr (w.heap.size + 1) ad c fs bT
  l4 : fs.length ≤ 4
  le : ∀ x ∈ fs, x.2.2.length ≤ 101
/-- .. each list a row. -/
structure P8 (B : Nat) (a0 : Option Addr) (len cap b : Nat) (w wr : World) (bT g c : Nat) (vs : List Value) (fs : List F8) (a : Int) (f : Bool) : Prop where
  v : V8 B a0 len cap b w wr bT (.slice (some ⟨g, 0, none⟩) fs.length c) a f
  fr : FR wr (w.heap.size + 1) bT g fs.length vs fs
  l1 : 1 ≤ fs.length
  l4 : fs.length ≤ 4
  cp : fs.length ≤ c
  le : ∀ x ∈ fs, x.2.2.length ≤ 100
section
variable {B : Nat} {a0 : Option Addr} {len cap b : Nat} {w wr w2 : World} {bT g c : Nat} {vs : List Value} {fs : List F8} {a : Int} {f : Bool}
theorem P8.draw (h : P8 B a0 len cap b w wr bT g c vs fs a f) (o : Only b wr w2) (k : Cur B a0 len cap b w2) : P8 B a0 len cap b w w2 bT g c vs fs a f := by
  have h1 := h.v.lt
  have oi : OnlyI b (b + 1) wr w2 := ⟨o.os, o.tape, o.output, o.size, fun k' hk' hn => o.block k' hk' (by omega)⟩
  exact ⟨h.v.draw o k, h.fr.onlyI oi (.inr (by omega)), h.l1, h.l4, h.cp, h.le⟩
theorem P8.next (h : P8 B a0 len cap b w wr bT g c vs fs a f) (hb : Below wr.heap.size wr w2) : P8 B a0 len cap b w w2 bT g c vs fs a f := h.draw (Only.of_below hb) (h.v.cur.mono hb)
theorem P8.apart (h : P8 B a0 len cap b w wr bT g c vs fs a f) : Apart8 bT g vs :=
  ⟨by have := h.fr.fo.g1; omega, fun i hi e => by have := ((h.fr.fo.own i (by rw [← h.fr.fo.len]; exact hi) hi).el e).2.1; omega⟩
theorem P8.u (h : P8 B a0 len cap b w wr bT g c vs fs a f) : U8 B a0 len cap b w wr bT (some ⟨g, 0, none⟩) c fs a f :=
  ⟨h.v, .inr ⟨g, vs, rfl, h.cp, h.fr.fo.wider (Nat.le_refl _) h.fr.fo.top (Nat.le_refl _), h.apart⟩, h.l4, fun x hx => by have := h.le x hx; omega⟩
/-- Another Quantum. -/
theorem P8.num0 {m : Nat} (h : P8 B a0 len cap b w wr bT g c vs fs a f) (hm : m < fs.length) (z : Int) : ∃ fs', fs'.length = fs.length ∧ U8 B a0 len cap b w (wr.setCell ⟨g, m * 3, none⟩ (.int .i64 z)) bT (some ⟨g, 0, none⟩) c fs' a f := by
  have hmv : m < vs.length := by rw [h.fr.fo.len]; exact hm
  have fo := h.fr.fo
  have g0 := fo.g0
  have g1 := fo.g1
  have tp := fo.top
  obtain ⟨c0, c1, c2⟩ := fo.got m hm hmv
  have os : Only g wr (wr.setCell ⟨g, m * 3, none⟩ (.int .i64 z)) := (Only.refl g wr).setCell (p := ⟨g, m * 3, none⟩) rfl _
  have hbk : ∀ y, y ≠ g → (wr.setCell ⟨g, m * 3, none⟩ (.int .i64 z)).heap[y]? = wr.heap[y]? := fun y hy => Below.heap_setCell _ _ _ _ (by exact hy)
  have hio : IO (wr.setCell ⟨g, m * 3, none⟩ (.int .i64 z)) (w.heap.size + 1) bT vs[m] fs[m].2.2 := (fo.own m hm hmv).same (by simp) (fun y e => hbk y (fun e' => fo.far m hmv (by rw [e, e'])))
  have hle : ∀ q d : Int, ∀ x ∈ fs.set m (q, d, fs[m].2.2), x.2.2.length ≤ 101 := fun q d x hx => by
    rcases List.mem_or_eq_of_mem_set hx with hx | rfl
    · have := h.le x hx; omega
    · have := h.le _ (List.getElem_mem hm); simp only; omega
  have fin : ∀ q d : Int, FO (wr.setCell ⟨g, m * 3, none⟩ (.int .i64 z)) (w.heap.size + 1) bT g fs.length (vs.set m vs[m]) (fs.set m (q, d, fs[m].2.2)) → ∃ fs', fs'.length = fs.length ∧ U8 B a0 len cap b w (wr.setCell ⟨g, m * 3, none⟩ (.int .i64 z)) bT (some ⟨g, 0, none⟩) c fs' a f := by
    intro q d F
    refine ⟨fs.set m (q, d, fs[m].2.2), List.length_set .., ⟨?_, .inr ⟨g, vs.set m vs[m], rfl, by rw [List.length_set]; exact h.cp, ?_, ?_⟩, by rw [List.length_set]; exact h.l4, hle q d⟩⟩
    · rw [List.length_set]
      exact h.v.other os (by omega) (by omega)
    · rw [List.length_set]
      exact F.wider (Nat.le_refl _) (by have := h.v.z1; simp; omega) (Nat.le_refl _)
    · rw [List.set_getElem_self]
      exact h.apart
  exact fin z fs[m].2.1 (fo.turn hm hmv (by simp) (fun y _ _ hy _ => hbk y hy) (fun j hj => set_other (by omega)) (fun j => by simp) (set_same _ c0) ((set_other (by omega)).trans c1) ((set_other (by omega)).trans c2) hio (fun b e => e))
/-- Another Deficit. -/
theorem P8.num1 {m : Nat} (h : P8 B a0 len cap b w wr bT g c vs fs a f) (hm : m < fs.length) (z : Int) : ∃ fs', fs'.length = fs.length ∧ U8 B a0 len cap b w (wr.setCell ⟨g, m * 3 + 1, none⟩ (.int .i64 z)) bT (some ⟨g, 0, none⟩) c fs' a f := by
  have hmv : m < vs.length := by rw [h.fr.fo.len]; exact hm
  have fo := h.fr.fo
  have g0 := fo.g0
  have g1 := fo.g1
  have tp := fo.top
  obtain ⟨c0, c1, c2⟩ := fo.got m hm hmv
  have os : Only g wr (wr.setCell ⟨g, m * 3 + 1, none⟩ (.int .i64 z)) := (Only.refl g wr).setCell (p := ⟨g, m * 3 + 1, none⟩) rfl _
  have hbk : ∀ y, y ≠ g → (wr.setCell ⟨g, m * 3 + 1, none⟩ (.int .i64 z)).heap[y]? = wr.heap[y]? := fun y hy => Below.heap_setCell _ _ _ _ (by exact hy)
  have hio : IO (wr.setCell ⟨g, m * 3 + 1, none⟩ (.int .i64 z)) (w.heap.size + 1) bT vs[m] fs[m].2.2 := (fo.own m hm hmv).same (by simp) (fun y e => hbk y (fun e' => fo.far m hmv (by rw [e, e'])))
  have hle : ∀ q d : Int, ∀ x ∈ fs.set m (q, d, fs[m].2.2), x.2.2.length ≤ 101 := fun q d x hx => by
    rcases List.mem_or_eq_of_mem_set hx with hx | rfl
    · have := h.le x hx; omega
    · have := h.le _ (List.getElem_mem hm); simp only; omega
  have fin : ∀ q d : Int, FO (wr.setCell ⟨g, m * 3 + 1, none⟩ (.int .i64 z)) (w.heap.size + 1) bT g fs.length (vs.set m vs[m]) (fs.set m (q, d, fs[m].2.2)) → ∃ fs', fs'.length = fs.length ∧ U8 B a0 len cap b w (wr.setCell ⟨g, m * 3 + 1, none⟩ (.int .i64 z)) bT (some ⟨g, 0, none⟩) c fs' a f := by
    intro q d F
    refine ⟨fs.set m (q, d, fs[m].2.2), List.length_set .., ⟨?_, .inr ⟨g, vs.set m vs[m], rfl, by rw [List.length_set]; exact h.cp, ?_, ?_⟩, by rw [List.length_set]; exact h.l4, hle q d⟩⟩
    · rw [List.length_set]
      exact h.v.other os (by omega) (by omega)
    · rw [List.length_set]
      exact F.wider (Nat.le_refl _) (by have := h.v.z1; simp; omega) (Nat.le_refl _)
    · rw [List.set_getElem_self]
      exact h.apart
  exact fin fs[m].1 z (fo.turn hm hmv (by simp) (fun y _ _ hy _ => hbk y hy) (fun j hj => set_other (by omega)) (fun j => by simp) ((set_other (by omega)).trans c0) (set_same _ c1) ((set_other (by omega)).trans c2) hio (fun b e => e))
/-- One number more behind a list. -/
theorem P8.app {W w6 : World} {m : Nat} {v' : Value} {x : Int} (h : P8 B a0 len cap b w wr bT g c vs fs a f) (hm : m < fs.length) (hmv : m < vs.length) (hW : Below wr.heap.size wr W) (own6 : w6.ownsRow (w.heap.size + 1) 2 1 v' (fs[m].2.2.length + 1) (flatI fs[m].2.2 ++ [.int .i64 x]))
    (gr : W.grownBy w6 vs[m].ownBlock) (two : v'.ownBlock = vs[m].ownBlock ∨ v'.ownBlock = some W.heap.size) :
    ∃ fs', fs'.length = fs.length ∧ U8 B a0 len cap b w (w6.setCell ⟨g, m * 3 + 2, none⟩ v') bT (some ⟨g, 0, none⟩) c fs' a f := by
  have F := h.fr.queued (x := x) hm hmv hW own6 gr two
  have fo := h.fr.fo
  have g0 := fo.g0
  have g1 := fo.g1
  have hz := hW.size
  have hz6 := gr.size
  have hT := h.v.z1
  have hv2 := h.v.next hW
  have hs : ∀ y, vs[m].ownBlock = some y → y ≠ g ∧ y < bT ∧ w.heap.size + 1 ≤ y := fun y e => ⟨(h.fr.sep m hmv y e).1, (h.fr.sep m hmv y e).2.1, ((h.fr.row m hm hmv).lt y e).1⟩
  have v6 : V8 B a0 len cap b w w6 bT (.slice (some ⟨g, 0, none⟩) fs.length c) a f := by
    cases hv : vs[m].ownBlock with
    | none => exact hv2.next ⟨gr.os, gr.tape, gr.output, gr.size, fun k hk => gr.block k hk (by rw [hv]; exact fun e => by cases e)⟩
    | some y =>
      have hy := hs y hv
      exact hv2.other (x := y) ⟨gr.os, gr.tape, gr.output, gr.size, fun k hk hn => gr.block k hk (by rw [hv]; exact fun e => hn (Option.some.inj e))⟩ (by omega) (by omega)
  have os : Only g w6 (w6.setCell ⟨g, m * 3 + 2, none⟩ v') := (Only.refl g w6).setCell (p := ⟨g, m * 3 + 2, none⟩) rfl _
  have v7 := v6.other os (by omega) (by omega)
  refine ⟨fs.set m (fs[m].1, fs[m].2.1, fs[m].2.2 ++ [x]), List.length_set .., ⟨by rw [List.length_set]; exact v7, .inr ⟨g, vs.set m v', rfl, by rw [List.length_set]; exact h.cp, ?_, ⟨h.apart.1, fun i hi e => ?_⟩⟩, by rw [List.length_set]; exact h.l4, fun y hy => ?_⟩⟩
  · rw [List.length_set]
    exact F.wider (Nat.le_refl _) (by simp) (Nat.le_refl _)
  · rw [List.getElem_set] at e
    by_cases e1 : m = i
    · rw [if_pos e1] at e
      have e2 := el_own own6 e
      rcases two with h3 | h3
      · have := hs bT (by rw [← h3]; exact e2); omega
      · rw [h3] at e2
        have := Option.some.inj e2
        omega
    · rw [if_neg e1] at e
      exact h.apart.2 i (by simpa using hi) e
  · rcases List.mem_or_eq_of_mem_set hy with hy | rfl
    · have := h.le y hy; omega
    · have := h.le _ (List.getElem_mem hm)
      simp only [List.length_append, List.length_cons, List.length_nil]
      omega
end
def V8Post (B : Nat) (a0 : Option Addr) (len cap b : Nat) (w : World) (e : Ending) (w' : World) : Prop :=
  ∃ ad c fs at' fresh, e = .returned (turnV ad fs.length c at' fresh) ∧ (fs = [] ∨ ∃ g vs, ad = some ⟨g, 0, none⟩ ∧ fs.length ≤ c ∧ FO w' (w.heap.size + 1) w'.heap.size g fs.length vs fs) ∧ fs.length ≤ 4 ∧ (∀ x ∈ fs, x.2.2.length ≤ 101) ∧ Cur B a0 len cap b w' ∧ Only b w w'
/-- The answer is stored. -/
theorem U8.out {B : Nat} {a0 : Option Addr} {len cap b : Nat} {w wr : World} {bT c : Nat} {ad : Option Addr} {fs : List F8} {a : Int} {f : Bool} (h : U8 B a0 len cap b w wr bT ad c fs a f) (x y z : Value) :
    V8Post B a0 len cap b w (.returned (turnV ad fs.length c a f)) (((wr.setCell ⟨w.heap.size, 0, none⟩ x).setCell ⟨w.heap.size, 1, none⟩ y).setCell ⟨w.heap.size, 2, none⟩ z) := by
  have hI : OnlyI w.heap.size (w.heap.size + 1) wr (((wr.setCell ⟨w.heap.size, 0, none⟩ x).setCell ⟨w.heap.size, 1, none⟩ y).setCell ⟨w.heap.size, 2, none⟩ z) :=
    (((OnlyI.refl _ _ _).setCell (by omega) (by omega) _).setCell (by omega) (by omega) _).setCell (by omega) (by omega) _
  have hBl : Below w.heap.size wr _ := hI.below (Nat.le_refl _) h.v.only.size
  refine ⟨ad, c, fs, a, f, rfl, ?_, h.l4, h.le, h.v.cur.under hBl h.v.lt, ⟨hI.os.trans h.v.only.os, hI.tape.trans h.v.only.tape, hI.output.trans h.v.only.output, Nat.le_trans h.v.only.size hI.size, fun k hk hn => (hBl.block k hk).trans (h.v.only.block k hk hn)⟩⟩
  rcases h.own with e | ⟨g, vs, e, hc, fo, _⟩
  · exact .inl e
  · exact .inr ⟨g, vs, e, hc, (fo.same hI.size (fun k h1 h2 => hI.block k (by have := fo.top; omega) (.inr h1))).wider (Nat.le_refl _) hI.size (Nat.le_refl _)⟩
end Go.Proofs.Ytdgefdjgpneanad
