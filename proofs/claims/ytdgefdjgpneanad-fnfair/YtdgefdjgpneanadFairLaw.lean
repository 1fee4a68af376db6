/- Flows that a law makes: what it holds on the way; bytes ahead of the code, as one operation. -/
import Derived.Test.YtdgefdjgpneanadDraw8
import Derived.Test.YtdgefdjgpneanadGrpA
import Derived.Test.YtdgefdjgpneanadPush2
import Derived.Test.YtdgefdjgpneanadDrawLevel
namespace Go.Proofs.Ytdgefdjgpneanad
open Go.ChangeShapes Go.WideShapes Go.ChangeAt Go.RowKit
set_option maxRecDepth 100000
set_option linter.unusedVariables false
set_option linter.unusedSimpArgs false

theorem wp_pushL {w : World} {o : Oper} {a : Act} {K : Act → World → Prop} {Q : Exit → Act → World → Prop} (bs : List Value) (hb0 : 0 < bs.length) (hbl : bs.length ≤ 4) (hbs : ∀ u ∈ bs, ∃ z : Int, u = .int .u8 z ∧ 0 ≤ z ∧ z ≤ 255) (s x : Operand)
    (ho : o.op = .call { callee := .builtin .append, args := #[s, x], argTypes := #[22, 22] })
    {B : Nat} {a0 : Option Addr} {len cap : Nat} {v : Value} (hs : a.eval s = v) (hx : a.eval x = .slice a0 len cap) (hown : w.ownsRow B 5 1 v bs.length bs) (row : Row B a0 len w)
    (hnil : a0 = none → len = 0 ∧ cap = 0) (hlen : len ≤ 4096) (hB : B ≤ w.heap.size)
    (h : ∀ a1 c w', Row w'.heap.size a1 (bs.length + len) w' → Below B w w' → K (a.put o.dst (.slice a1 ((bs.length + len : Nat)) c)) w') : o.wp Try.prog a w K Q := by
  obtain ⟨i0, hi, hz0, hz1, hz2⟩ := info_parts info_u8
  cases a0 with
  | none =>
    obtain ⟨rfl, rfl⟩ := hnil rfl
    have hrun := run_append_owned_none (P := Try.prog) (w := w) B 22 o.type 5 i0 1 Try.underlying22 hi v bs.length _ hown
    obtain ⟨g, c, rfl, hr⟩ := row_owned hown hb0 hbs
    have hk := h _ c w hr (Below.refl _ _)
    unfold Oper.wp
    simp [execOp, ho, resolve, invoke, builtin, hs, hx, hrun, Result.andThen]
    exact hk
  | some ad =>
    obtain ⟨news, hl, hn, hu⟩ : ∃ news : List Value, news.length = len ∧ (∀ j u, news[j]? = some u → w.cell? (ad.add j) = some u) ∧ ∀ u ∈ news, ∃ z : Int, u = .int .u8 z ∧ 0 ≤ z ∧ z ≤ 255 := by
      by_cases h0 : len = 0
      · subst h0; exact ⟨[], rfl, fun j u h => by simp at h, fun u h => by cases h⟩
      · obtain ⟨xb, xo, z, e, _⟩ := row 0 (by omega)
        cases e
        exact row_list row
    refine wp_append_own w s x 22 ho B 5 i0 (.int .u8 0) 1 1 Try.underlying22 hi hz0 hz1 hz2 rfl (by decide) v bs.length _ hs hown ad len cap news hx (by rw [hl, Nat.mul_one]) hn
      (fun u hu' => by obtain ⟨z, rfl, _⟩ := hu u hu'; rfl) (by unfold maxLen; omega) (by omega) hB ?_
    intro v' w' ho' hg' _
    obtain ⟨g, c, rfl, hr⟩ := row_owned ho' (by omega) (fun u hm => by
      rcases List.mem_append.1 hm with hm | hm
      · exact hbs u hm
      · exact hu u hm)
    exact h _ c w' hr ((Below.refl _ _).grown hg' hB fun k hk => (hown.lt k hk).1)
/-- A flow of a hundred sizes. -/
structure FullF (f : F8) : Prop where
  q0 : 1500 ≤ f.1
  q1 : f.1 ≤ 10000
  d : f.2.1 = 0
  len : f.2.2.length = 100
  seg : allSg f.2.2 = true
structure LF (w wr : World) (lo b3 : Nat) (sF : Value) (G : List G8) (fs : List F8) : Prop where
  hb : Below w.heap.size w wr
  t0 : wr.cell? ⟨b3, 0, none⟩ = some sF
  t1 : wr.cell? ⟨b3, 1, none⟩ = some (.int .i64 0)
  t2 : wr.cell? ⟨b3, 2, none⟩ = some (.bool true)
  tf : ∀ o : Nat, wr.frozen? ⟨b3, o, none⟩ = false
  z0 : w.heap.size ≤ b3
  z1 : b3 < lo
  z2 : lo ≤ wr.heap.size
  st : CpSt wr lo sF G fs
  ok : ∀ f ∈ fs, FullF f
section
variable {w wr w2 : World} {lo b3 : Nat} {sF : Value} {G : List G8} {fs : List F8}
theorem LF.keep {x : Nat} (d : LF w wr lo b3 sF G fs) (o : Only x wr w2) (hx : w.heap.size ≤ x) (x1 : x ≠ b3) (hF : sF.ownBlock ≠ some x) (hG : ∀ i (h : i < G.length), G[i].2.2.ownBlock ≠ some x) : LF w w2 lo b3 sF G fs := by
  have h0 := d.z0
  have h1 := d.z1
  have h2 := d.z2
  have hz := o.size
  have ht : ∀ o', w2.cell? ⟨b3, o', none⟩ = wr.cell? ⟨b3, o', none⟩ := fun o' => o.cell (p := ⟨b3, o', none⟩) (by show b3 < _; omega) (fun e => x1 e.symm)
  exact ⟨d.hb.trans (o.below hx d.hb.size), (ht 0).trans d.t0, (ht 1).trans d.t1, (ht 2).trans d.t2, fun o' => (o.frozen (p := ⟨b3, o', none⟩) (by show b3 < _; omega) (fun e => x1 e.symm)).trans (d.tf o'), d.z0, d.z1, by omega, d.st.only1 o hF hG, d.ok⟩
theorem LF.next (d : LF w wr lo b3 sF G fs) (hb : Below wr.heap.size wr w2) : LF w w2 lo b3 sF G fs := by
  have h0 := d.z0
  have h1 := d.z1
  have h2 := d.z2
  have hz := hb.size
  have ht : ∀ o', w2.cell? ⟨b3, o', none⟩ = wr.cell? ⟨b3, o', none⟩ := fun o' => hb.cell (p := ⟨b3, o', none⟩) (by show b3 < _; omega)
  exact ⟨below_step d.hb hb, (ht 0).trans d.t0, (ht 1).trans d.t1, (ht 2).trans d.t2, fun o' => (hb.frozen (p := ⟨b3, o', none⟩) (by show b3 < _; omega)).trans (d.tf o'), d.z0, d.z1, by omega, d.st.next hb, d.ok⟩
end
structure LE (w wr : World) (lo b3 : Nat) (sF : Value) (G : List G8) (fs : List F8) (b5 : Nat) (q : Int) (sv : Value) (xs : List Int) : Prop where
  d : LF w wr lo b3 sF G fs
  f0 : wr.cell? ⟨b5, 0, none⟩ = some (.int .i64 q)
  f1 : wr.cell? ⟨b5, 1, none⟩ = some (.int .i64 0)
  f2 : wr.cell? ⟨b5, 2, none⟩ = some sv
  ff : ∀ o : Nat, wr.frozen? ⟨b5, o, none⟩ = false
  b0 : lo ≤ b5
  b1 : b5 < wr.heap.size
  hF : ∀ g, sF.ownBlock = some g → g < b5
  hG : ∀ i (h : i < G.length) g, G[i].2.2.ownBlock = some g → g < b5
  row : wr.ownsRow lo 2 1 sv xs.length (flatI xs)
  hv : ∀ g, sv.ownBlock = some g → b5 < g
  seg : allSg xs = true
section
variable {w wr w2 : World} {lo b3 : Nat} {sF : Value} {G : List G8} {fs : List F8} {b5 : Nat} {q : Int} {sv : Value} {xs : List Int}
theorem LE.next (e : LE w wr lo b3 sF G fs b5 q sv xs) (hb : Below wr.heap.size wr w2) : LE w w2 lo b3 sF G fs b5 q sv xs :=
  ⟨e.d.next hb, (hb.cell (p := ⟨b5, 0, none⟩) e.b1).trans e.f0, (hb.cell (p := ⟨b5, 1, none⟩) e.b1).trans e.f1, (hb.cell (p := ⟨b5, 2, none⟩) e.b1).trans e.f2, fun o => (hb.frozen (p := ⟨b5, o, none⟩) e.b1).trans (e.ff o), e.b0, Nat.lt_of_lt_of_le e.b1 hb.size, e.hF, e.hG, row_next e.row hb, e.hv, e.seg⟩
theorem LE.begin (d : LF w wr lo b3 sF G fs) (q : Int) : LE w (wr.alloc (.cells #[.int .i64 q, .int .i64 0, .slice none 0 0] 61)) lo b3 sF G fs wr.heap.size q (.slice none 0 0) [] :=
  ⟨d.next (newB _ _), by go_simp, by go_simp, by go_simp, fun o => by go_simp, d.z2, by simp, fun g e => (d.st.row.lt g e).2, fun i h g e => (d.st.own i h e).2, ⟨rfl, .inl ⟨rfl, rfl⟩⟩, (fun g e => by cases e), rfl⟩
theorem LE.app {w6 : World} {x : Int} {v' : Value} (e : LE w wr lo b3 sF G fs b5 q sv xs) (hb : Below wr.heap.size wr w2) (own6 : w6.ownsRow lo 2 1 v' (xs.length + 1) (flatI xs ++ [.int .i64 x])) (gr6 : w2.grownBy w6 sv.ownBlock) (two6 : v'.ownBlock = sv.ownBlock ∨ v'.ownBlock = some w2.heap.size) (hx : 1 ≤ x ∧ x ≤ 1500) :
    LE w (w6.setCell ⟨b5, 2, none⟩ v') lo b3 sF G fs b5 q v' (xs ++ [x]) := by
  have e2 := e.next hb
  have h0 := e.d.z0
  have h01 := e.d.z1
  have h1 := e.b0
  have hz2 := hb.size
  have hb1 := e.b1
  have on6 : ∀ k, k < w2.heap.size → sv.ownBlock ≠ some k → w6.heap[k]? = w2.heap[k]? := fun k hk hn => gr6.block k hk (fun e' => hn e'.symm)
  have hsz6 := gr6.size
  have hno : ∀ k, k ≤ b5 → sv.ownBlock ≠ some k := fun k hk e' => by have := e.hv k e'; omega
  have d6 : LF w w6 lo b3 sF G fs := by
    cases hs : sv.ownBlock with
    | none => exact e2.d.next ⟨gr6.os, gr6.tape, gr6.output, gr6.size, fun k hk => on6 k hk (by rw [hs]; exact fun e' => by cases e')⟩
    | some g =>
      have hg := e.hv g hs
      have og : Only g w2 w6 := ⟨gr6.os, gr6.tape, gr6.output, gr6.size, fun k hk hn => on6 k hk (by rw [hs]; exact fun e' => hn (Option.some.inj e').symm)⟩
      exact e2.d.keep og (by omega) (by omega) (fun e' => by have := e.hF g e'; omega) (fun i h e' => by have := e.hG i h g e'; omega)
  have hf : ∀ o : Nat, w6.cell? ⟨b5, o, none⟩ = w2.cell? ⟨b5, o, none⟩ := fun o => World.cell?_of_block (a := ⟨b5, o, none⟩) (on6 b5 (by omega) (hno b5 (Nat.le_refl _)))
  have hfz : ∀ o : Nat, w6.frozen? ⟨b5, o, none⟩ = w2.frozen? ⟨b5, o, none⟩ := fun o => World.frozen?_of_block (a := ⟨b5, o, none⟩) (on6 b5 (by omega) (hno b5 (Nat.le_refl _)))
  have os : Only b5 w6 (w6.setCell ⟨b5, 2, none⟩ v') := (Only.refl b5 w6).setCell (p := ⟨b5, 2, none⟩) rfl _
  have hvv : ∀ g, v'.ownBlock = some g → b5 < g := fun g e' => by
    rcases two6 with h | h
    · exact e.hv g (by rw [← h]; exact e')
    · rw [h] at e'
      have := Option.some.inj e'
      omega
  refine ⟨d6.keep os (by omega) (by omega) (fun e' => by have := e.hF b5 e'; omega) (fun i h e' => by have := e.hG i h b5 e'; omega), (set_other (by decide)).trans ((hf 0).trans e2.f0), (set_other (by decide)).trans ((hf 1).trans e2.f1), set_same _ ((hf 2).trans e2.f2), fun o => by rw [World.frozen?_setCell]; exact (hfz o).trans (e2.ff o), e.b0, by simp; omega, e.hF, e.hG, ?_, hvv, ?_⟩
  · rw [List.length_append, flatI_append]
    exact row_onlyX own6 os (fun e' => by have := hvv b5 e'; omega)
  · unfold allSg
    rw [List.all_append]
    have := e.seg
    unfold allSg at this
    rw [this]
    simp [sg, inB, hx]
theorem LE.push {w6 : World} {vF : Value} (e : LE w wr lo b3 sF G fs b5 q sv xs) (hb : Below wr.heap.size wr w2) (own6 : w6.ownsRow lo 61 3 vF (fs.length + 1) (flatF G ++ [.int .i64 q, .int .i64 0, sv])) (gr6 : w2.grownBy w6 sF.ownBlock) (hl : xs.length = 100) (hq : 1500 ≤ q ∧ q ≤ 10000) :
    LF w (w6.setCell ⟨b3, 0, none⟩ vF) lo b3 vF (G ++ [(q, 0, sv)]) (fs ++ [(q, 0, xs)]) := by
  have e2 := e.next hb
  have h0 := e.d.z0
  have h01 := e.d.z1
  have h1 := e.b0
  have hz2 := hb.size
  have hb1 := e.b1
  have hsz6 := gr6.size
  have st6 : CpSt w6 lo vF (G ++ [(q, 0, sv)]) (fs ++ [(q, 0, xs)]) := e2.d.st.push e2.row (fun g e' => ⟨(e2.row.lt g e').2, fun j hj e'' => by have := e.hG j hj g e''; have := e.hv g e'; omega⟩) own6 gr6
  have hlo : ∀ k, k < lo → w6.heap[k]? = w2.heap[k]? := fun k hk => gr6.block k (by have := e2.d.z2; omega) (fun e' => by have := (e2.d.st.row.lt k e'.symm).1; omega)
  have hc : ∀ o : Nat, w6.cell? ⟨b3, o, none⟩ = w2.cell? ⟨b3, o, none⟩ := fun o => World.cell?_of_block (a := ⟨b3, o, none⟩) (hlo b3 h01)
  have hf : ∀ o : Nat, w6.frozen? ⟨b3, o, none⟩ = w2.frozen? ⟨b3, o, none⟩ := fun o => World.frozen?_of_block (a := ⟨b3, o, none⟩) (hlo b3 h01)
  have hB6 : Below lo w2 w6 := ⟨gr6.os, gr6.tape, gr6.output, gr6.size, fun k hk => hlo k hk⟩
  have os : Only b3 w6 (w6.setCell ⟨b3, 0, none⟩ vF) := (Only.refl b3 w6).setCell (p := ⟨b3, 0, none⟩) rfl _
  have b6 : Below w.heap.size w w6 := e2.d.hb.trans (hB6.mono (by omega))
  refine ⟨b6.trans (os.below h0 b6.size), set_same _ ((hc 0).trans e2.d.t0), (set_other (by decide)).trans ((hc 1).trans e2.d.t1), (set_other (by decide)).trans ((hc 2).trans e2.d.t2), fun o => by rw [World.frozen?_setCell]; exact (hf o).trans (e2.d.tf o), h0, h01, by have := e2.d.z2; simp; omega, st6.set _ h01, fun f hf' => ?_⟩
  rcases List.mem_append.1 hf' with h | h
  · exact e.d.ok f h
  · rw [List.mem_singleton.1 h]
    exact ⟨hq.1, hq.2, rfl, hl, e.seg⟩
end
end Go.Proofs.Ytdgefdjgpneanad
