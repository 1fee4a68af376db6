/- The draw of Turns: what it holds while it is made. -/
import Derived.Test.YtdgefdjgpneanadSpecCp8
import Derived.Test.YtdgefdjgpneanadSpecServe
import Derived.Test.YtdgefdjgpneanadDraws1
import Derived.Test.YtdgefdjgpneanadDrawO
namespace Go.Proofs.Ytdgefdjgpneanad
open Go.ChangeShapes Go.WideShapes Go.ChangeAt Go.RowKit
set_option maxRecDepth 100000
set_option linter.unusedVariables false
set_option linter.unusedSimpArgs false

/-- A flow as it is drawn. -/
structure NewF (f : F8) : Prop where
  q0 : 1500 ≤ f.1
  q1 : f.1 ≤ 10000
  d : f.2.1 = 0
  len : f.2.2.length ≤ 13
  seg : allSg f.2.2 = true
theorem grown_only {x : Nat} {w w' : World} (h : Only x w w') : w.grownBy w' (some x) := ⟨h.os, h.tape, h.output, h.size, fun k hk hn => h.block k hk (fun e => hn (by rw [e]))⟩
theorem row_onlyX {x base n s : Nat} {e : TypeId} {w w' : World} {v : Value} {xs : List Value} (h : w.ownsRow base e s v n xs) (ho : Only x w w') (hx : v.ownBlock ≠ some x) : w'.ownsRow base e s v n xs :=
  h.kept (row := some x) (grown_only ho) (.inr hx)
theorem CpSt.only1 {w w' : World} {lo x : Nat} {sF : Value} {G : List G8} {fs : List F8} (h : CpSt w lo sF G fs) (ho : Only x w w') (hF : sF.ownBlock ≠ some x) (hG : ∀ i (h : i < G.length), G[i].2.2.ownBlock ≠ some x) : CpSt w' lo sF G fs :=
  ⟨row_onlyX h.row ho hF, h.len, h.num, fun i h1 h2 => row_onlyX (h.ints i h1 h2) ho (hG i h2), fun i k b e => ⟨Nat.lt_of_lt_of_le (h.sep i k b e).1 ho.size, (h.sep i k b e).2⟩⟩
structure D8 (B : Nat) (a0 : Option Addr) (len cap b : Nat) (w wr : World) (lo : Nat) (sF : Value) (G : List G8) (fs : List F8) : Prop where
  cur : Cur B a0 len cap b wr
  only : Only b w wr
  lt : b < w.heap.size
  r0 : wr.cell? ⟨w.heap.size, 0, none⟩ = some (.slice none 0 0)
  r1 : wr.cell? ⟨w.heap.size, 1, none⟩ = some (.int .i64 0)
  r2 : wr.cell? ⟨w.heap.size, 2, none⟩ = some (.bool false)
  rf : ∀ o : Nat, wr.frozen? ⟨w.heap.size, o, none⟩ = false
  t0 : wr.cell? ⟨w.heap.size + 1, 0, none⟩ = some sF
  t1 : wr.cell? ⟨w.heap.size + 1, 1, none⟩ = some (.int .i64 0)
  t2 : wr.cell? ⟨w.heap.size + 1, 2, none⟩ = some (.bool true)
  tf : ∀ o : Nat, wr.frozen? ⟨w.heap.size + 1, o, none⟩ = false
  z0 : w.heap.size + 2 ≤ lo
  z1 : lo ≤ wr.heap.size
  st : CpSt wr lo sF G fs
  ok : ∀ f ∈ fs, NewF f
section
variable {B : Nat} {a0 : Option Addr} {len cap b : Nat} {w wr w2 : World} {lo : Nat} {sF : Value} {G : List G8} {fs : List F8}
theorem CpSt.own (h : CpSt wr lo sF G fs) (i : Nat) (hi : i < G.length) {g : Nat} (e : G[i].2.2.ownBlock = some g) : lo ≤ g ∧ g < wr.heap.size := (h.ints i (by rw [← h.len]; exact hi) hi).lt g e
theorem D8.keep {x : Nat} (d : D8 B a0 len cap b w wr lo sF G fs) (o : Only x wr w2) (k : Cur B a0 len cap b w2) (oo : Only b w w2) (x0 : x ≠ w.heap.size) (x1 : x ≠ w.heap.size + 1) (hF : sF.ownBlock ≠ some x) (hG : ∀ i (h : i < G.length), G[i].2.2.ownBlock ≠ some x) : D8 B a0 len cap b w w2 lo sF G fs := by
  have h0 := d.z0
  have h1 := d.z1
  have hc : ∀ o', w2.cell? ⟨w.heap.size, o', none⟩ = wr.cell? ⟨w.heap.size, o', none⟩ := fun o' => o.cell (p := ⟨w.heap.size, o', none⟩) (by show w.heap.size < _; omega) (fun e => x0 e.symm)
  have ht : ∀ o', w2.cell? ⟨w.heap.size + 1, o', none⟩ = wr.cell? ⟨w.heap.size + 1, o', none⟩ := fun o' => o.cell (p := ⟨w.heap.size + 1, o', none⟩) (by show w.heap.size + 1 < _; omega) (fun e => x1 e.symm)
  exact ⟨k, oo, d.lt, (hc 0).trans d.r0, (hc 1).trans d.r1, (hc 2).trans d.r2, fun o' => (o.frozen (p := ⟨w.heap.size, o', none⟩) (by show w.heap.size < _; omega) (fun e => x0 e.symm)).trans (d.rf o'), (ht 0).trans d.t0, (ht 1).trans d.t1, (ht 2).trans d.t2, fun o' => (o.frozen (p := ⟨w.heap.size + 1, o', none⟩) (by show w.heap.size + 1 < _; omega) (fun e => x1 e.symm)).trans (d.tf o'), d.z0, Nat.le_trans d.z1 o.size, d.st.only1 o hF hG, d.ok⟩
theorem D8.draw (d : D8 B a0 len cap b w wr lo sF G fs) (o : Only b wr w2) (k : Cur B a0 len cap b w2) : D8 B a0 len cap b w w2 lo sF G fs :=
  d.keep o k (d.only.trans o) (by have := d.lt; omega) (by have := d.lt; omega) (fun e => by have := (d.st.row.lt b e).1; have := d.lt; have := d.z0; omega) (fun i h e => by have := (d.st.own i h e).1; have := d.lt; have := d.z0; omega)
theorem D8.next (d : D8 B a0 len cap b w wr lo sF G fs) (h : Below wr.heap.size wr w2) : D8 B a0 len cap b w w2 lo sF G fs := d.draw (Only.of_below h) (d.cur.mono h)
end
/-- .. and a flow in a variable of its own, its list a row. -/
structure E8 (B : Nat) (a0 : Option Addr) (len cap b : Nat) (w wr : World) (lo : Nat) (sF : Value) (G : List G8) (fs : List F8) (b5 : Nat) (q : Int) (sv : Value) (xs : List Int) : Prop where
  d : D8 B a0 len cap b w wr lo sF G fs
  f0 : wr.cell? ⟨b5, 0, none⟩ = some (.int .i64 q)
  f1 : wr.cell? ⟨b5, 1, none⟩ = some (.int .i64 0)
  f2 : wr.cell? ⟨b5, 2, none⟩ = some sv
  ff : ∀ o : Nat, wr.frozen? ⟨b5, o, none⟩ = false
  b0 : lo ≤ b5
  b1 : b5 < wr.heap.size
  hF : ∀ g, sF.ownBlock = some g → g < b5
  hG : ∀ i (h : i < G.length) g, G[i].2.2.ownBlock = some g → g < b5
  row : wr.ownsRow lo 2 1 sv xs.length (flatI xs)
  hv : ∀ g, sv.ownBlock = some g → b5 < g
  seg : allSg xs = true
section
variable {B : Nat} {a0 : Option Addr} {len cap b : Nat} {w wr w2 : World} {lo : Nat} {sF : Value} {G : List G8} {fs : List F8} {b5 : Nat} {q : Int} {sv : Value} {xs : List Int}
theorem E8.draw (e : E8 B a0 len cap b w wr lo sF G fs b5 q sv xs) (o : Only b wr w2) (k : Cur B a0 len cap b w2) : E8 B a0 len cap b w w2 lo sF G fs b5 q sv xs := by
  have h0 := e.d.z0
  have h1 := e.b0
  have h2 := e.d.lt
  have hn : b5 ≠ b := by omega
  exact ⟨e.d.draw o k, (o.cell (p := ⟨b5, 0, none⟩) e.b1 hn).trans e.f0, (o.cell (p := ⟨b5, 1, none⟩) e.b1 hn).trans e.f1, (o.cell (p := ⟨b5, 2, none⟩) e.b1 hn).trans e.f2, fun o' => (o.frozen (p := ⟨b5, o', none⟩) e.b1 hn).trans (e.ff o'), e.b0, Nat.lt_of_lt_of_le e.b1 o.size, e.hF, e.hG, row_onlyX e.row o (fun x => by have := e.hv b x; omega), e.hv, e.seg⟩
theorem E8.next (e : E8 B a0 len cap b w wr lo sF G fs b5 q sv xs) (h : Below wr.heap.size wr w2) : E8 B a0 len cap b w w2 lo sF G fs b5 q sv xs := e.draw (Only.of_below h) (e.d.cur.mono h)
theorem only_low8 {x : Nat} {u v z : World} (h : Only b u v) (k : Only x v z) (hx : u.heap.size ≤ x) : Only b u z :=
  ⟨k.os.trans h.os, k.tape.trans h.tape, k.output.trans h.output, Nat.le_trans h.size k.size, fun i hi hn => (k.block i (Nat.lt_of_lt_of_le hi h.size) (by omega)).trans (h.block i hi hn)⟩
theorem cur_onlyX {x : Nat} (c : Cur B a0 len cap b wr) (o : Only x wr w2) (hx : wr.heap.size ≤ x ∨ (B ≤ x ∧ x ≠ b)) : Cur B a0 len cap b w2 := by
  have h1 := c.hi
  have h2 := c.lo
  have hb : b ≠ x := by omega
  refine ⟨c.small, c.lo, Nat.lt_of_lt_of_le c.hi o.size, ?_, fun j => (o.frozen (p := ⟨b, j, none⟩) h1 hb).trans (c.fr j), fun i hi => ?_⟩
  · obtain ⟨i, v, e0, e1, e2, e3⟩ := c.val
    exact ⟨i, v, (o.cell (p := ⟨b, 0, none⟩) h1 hb).trans e0, (o.cell (p := ⟨b, 1, none⟩) h1 hb).trans e1, (o.cell (p := ⟨b, 2, none⟩) h1 hb).trans e2, e3⟩
  · obtain ⟨xb, xo, z, e, hx', hc, hz⟩ := c.row i hi
    exact ⟨xb, xo, z, e, hx', (o.cell (p := ⟨xb, xo + i, none⟩) (by show xb < _; omega) (by show xb ≠ x; omega)).trans hc, hz⟩
/-- One number more behind the list: an append that made w6, and the list stored again. -/
theorem E8.app {w6 : World} {x : Int} {v' : Value} (e : E8 B a0 len cap b w wr lo sF G fs b5 q sv xs) (hb : Below wr.heap.size wr w2) (own6 : w6.ownsRow lo 2 1 v' (xs.length + 1) (flatI xs ++ [.int .i64 x])) (gr6 : w2.grownBy w6 sv.ownBlock) (two6 : v'.ownBlock = sv.ownBlock ∨ v'.ownBlock = some w2.heap.size) (hx : 1 ≤ x ∧ x ≤ 1500) :
    E8 B a0 len cap b w (w6.setCell ⟨b5, 2, none⟩ v') lo sF G fs b5 q v' (xs ++ [x]) := by
  have e2 := e.next hb
  have h0 := e.d.z0
  have h1 := e.b0
  have h2 := e.d.lt
  have hB := e.d.cur.lo
  have hz2 := hb.size
  have hb1 := e.b1
  -- the append
  have on6 : ∀ k, k < w2.heap.size → sv.ownBlock ≠ some k → w6.heap[k]? = w2.heap[k]? := fun k hk hn => gr6.block k hk (fun e' => hn e'.symm)
  have hsz6 := gr6.size
  have hno : ∀ k, k ≤ b5 → sv.ownBlock ≠ some k := fun k hk e' => by have := e.hv k e'; omega
  have d6 : D8 B a0 len cap b w w6 lo sF G fs := by
    cases hs : sv.ownBlock with
    | none => exact e2.d.next ⟨gr6.os, gr6.tape, gr6.output, gr6.size, fun k hk => on6 k hk (by rw [hs]; exact fun e' => by cases e')⟩
    | some g =>
      have hg := e.hv g hs
      have og : Only g w2 w6 := ⟨gr6.os, gr6.tape, gr6.output, gr6.size, fun k hk hn => on6 k hk (by rw [hs]; exact fun e' => hn (Option.some.inj e').symm)⟩
      have hwz := e2.d.only.size
      exact e2.d.keep og (cur_onlyX e2.d.cur og (.inr ⟨by omega, by omega⟩)) (only_low8 e2.d.only og (by omega)) (by omega) (by omega) (fun e' => by have := e.hF g e'; omega) (fun i h e' => by have := e.hG i h g e'; omega)
  have hf : ∀ o : Nat, w6.cell? ⟨b5, o, none⟩ = w2.cell? ⟨b5, o, none⟩ := fun o => World.cell?_of_block (a := ⟨b5, o, none⟩) (on6 b5 (by omega) (hno b5 (Nat.le_refl _)))
  have hfz : ∀ o : Nat, w6.frozen? ⟨b5, o, none⟩ = w2.frozen? ⟨b5, o, none⟩ := fun o => World.frozen?_of_block (a := ⟨b5, o, none⟩) (on6 b5 (by omega) (hno b5 (Nat.le_refl _)))
  -- the store
  have os : Only b5 w6 (w6.setCell ⟨b5, 2, none⟩ v') := (Only.refl b5 w6).setCell (p := ⟨b5, 2, none⟩) rfl _
  have hw6 := d6.only.size
  have hvv : ∀ g, v'.ownBlock = some g → b5 < g := fun g e' => by
    rcases two6 with h | h
    · exact e.hv g (by rw [← h]; exact e')
    · rw [h] at e'
      have := Option.some.inj e'
      omega
  refine ⟨d6.keep os (cur_onlyX d6.cur os (.inr ⟨by omega, by omega⟩)) (only_low8 d6.only os (by omega)) (by omega) (by omega) (fun e' => by have := e.hF b5 e'; omega) (fun i h e' => by have := e.hG i h b5 e'; omega), (set_other (by decide)).trans ((hf 0).trans e2.f0), (set_other (by decide)).trans ((hf 1).trans e2.f1), set_same _ ((hf 2).trans e2.f2), fun o => by rw [World.frozen?_setCell]; exact (hfz o).trans (e2.ff o), e.b0, by simp; omega, e.hF, e.hG, ?_, hvv, ?_⟩
  · rw [List.length_append, flatI_append]
    exact row_onlyX own6 os (fun e' => by have := hvv b5 e'; omega)
  · unfold allSg
    rw [List.all_append]
    have := e.seg
    unfold allSg at this
    rw [this]
    simp [sg, inB, hx]
/-- The flow comes behind the others. -/
theorem E8.push {w6 : World} {vF : Value} (e : E8 B a0 len cap b w wr lo sF G fs b5 q sv xs) (hb : Below wr.heap.size wr w2) (own6 : w6.ownsRow lo 61 3 vF (fs.length + 1) (flatF G ++ [.int .i64 q, .int .i64 0, sv])) (gr6 : w2.grownBy w6 sF.ownBlock) (hl : xs.length ≤ 13) (hq : 1500 ≤ q ∧ q ≤ 10000) :
    D8 B a0 len cap b w (w6.setCell ⟨w.heap.size + 1, 0, none⟩ vF) lo vF (G ++ [(q, 0, sv)]) (fs ++ [(q, 0, xs)]) := by
  have e2 := e.next hb
  have h0 := e.d.z0
  have h1 := e.b0
  have h2 := e.d.lt
  have hB := e.d.cur.lo
  have hz2 := hb.size
  have hb1 := e.b1
  have hwz := e2.d.only.size
  have st6 : CpSt w6 lo vF (G ++ [(q, 0, sv)]) (fs ++ [(q, 0, xs)]) := e2.d.st.push e2.row (fun g e' => ⟨(e2.row.lt g e').2, fun j hj e'' => by have := e.hG j hj g e''; have := e.hv g e'; omega⟩) own6 gr6
  have hlo : ∀ k, k < lo → w6.heap[k]? = w2.heap[k]? := fun k hk => gr6.block k (by have := e2.d.z1; omega) (fun e' => by have := (e2.d.st.row.lt k e'.symm).1; omega)
  have hc : ∀ k o : Nat, k < lo → w6.cell? ⟨k, o, none⟩ = w2.cell? ⟨k, o, none⟩ := fun k o hk => World.cell?_of_block (a := ⟨k, o, none⟩) (hlo k hk)
  have hf : ∀ k o : Nat, k < lo → w6.frozen? ⟨k, o, none⟩ = w2.frozen? ⟨k, o, none⟩ := fun k o hk => World.frozen?_of_block (a := ⟨k, o, none⟩) (hlo k hk)
  have hB6 : Below lo w2 w6 := ⟨gr6.os, gr6.tape, gr6.output, gr6.size, fun k hk => hlo k hk⟩
  have os : Only (w.heap.size + 1) w6 (w6.setCell ⟨w.heap.size + 1, 0, none⟩ vF) := (Only.refl (w.heap.size + 1) w6).setCell (p := ⟨w.heap.size + 1, 0, none⟩) rfl _
  have k6 : Cur B a0 len cap b w6 := e2.d.cur.under hB6 (by omega)
  have o6 : Only b w w6 := ⟨hB6.os.trans e2.d.only.os, hB6.tape.trans e2.d.only.tape, hB6.output.trans e2.d.only.output, Nat.le_trans e2.d.only.size gr6.size, fun k hk hn => (hlo k (by omega)).trans (e2.d.only.block k hk hn)⟩
  have hsz6 := gr6.size
  refine ⟨cur_onlyX k6 os (.inr ⟨by omega, by omega⟩), only_low8 o6 os (by omega), e.d.lt, (set_far (by show w.heap.size + 1 ≠ w.heap.size; omega)).trans ((hc _ 0 (by omega)).trans e2.d.r0), (set_far (by show w.heap.size + 1 ≠ w.heap.size; omega)).trans ((hc _ 1 (by omega)).trans e2.d.r1), (set_far (by show w.heap.size + 1 ≠ w.heap.size; omega)).trans ((hc _ 2 (by omega)).trans e2.d.r2), fun o => by rw [World.frozen?_setCell]; exact (hf _ o (by omega)).trans (e2.d.rf o), set_same _ ((hc _ 0 (by omega)).trans e2.d.t0), (set_other (by decide)).trans ((hc _ 1 (by omega)).trans e2.d.t1), (set_other (by decide)).trans ((hc _ 2 (by omega)).trans e2.d.t2), fun o => by rw [World.frozen?_setCell]; exact (hf _ o (by omega)).trans (e2.d.tf o), e.d.z0, by have := e2.d.z1; simp; omega, st6.set _ (by omega), fun f hf' => ?_⟩
  rcases List.mem_append.1 hf' with h | h
  · exact e.d.ok f h
  · rw [List.mem_singleton.1 h]
    exact ⟨hq.1, hq.2, rfl, hl, e.seg⟩
end
end Go.Proofs.Ytdgefdjgpneanad
