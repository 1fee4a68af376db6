/- Lemmas on the way, of several texts: Draw7g, Draw7h. -/
import Derived.Test.YtmophpbfaonfmadGrpT
import Derived.Test.YtmophpbfaonfmadGrpC
import Derived.Deep.RegionHeld3
import Derived.Deep.DeepCutAuto
import Derived.Test.YtmophpbfaonfmadSpecCopy
namespace Go.Proofs.Ytmophpbfaonfmad
open Go.ChangeShapes Go.WideShapes Go.ChangeAt Go.RowKit
set_option maxRecDepth 100000
set_option linter.unusedVariables false
set_option linter.unusedSimpArgs false

/-- A Lend in a variable of a draw's own, the answer's place, and the cursor. -/
structure M7 (B : Nat) (a0 : Option Addr) (len cap b : Nat) (w0 w1 wr : World) (bl : Nat) (a1 : Option Addr) (c1 : Nat) (a2 : Option Addr) (c2 : Nat) (a3 : Option Addr) (c3 : Nat) (T O P : List Q4) : Prop where
  s : S7 B a0 len cap b w1 wr bl a1 c1 a2 c2 a3 c3 T O P
  hb : Below w0.heap.size w0 wr
  r0 : wr.cell? ⟨w0.heap.size, 0, none⟩ = some (.slice none 0 0)
  r1 : wr.cell? ⟨w0.heap.size, 1, none⟩ = some (.slice none 0 0)
  r2 : wr.cell? ⟨w0.heap.size, 2, none⟩ = some (.slice none 0 0)
  rf : ∀ o : Nat, wr.frozen? ⟨w0.heap.size, o, none⟩ = false
  z0 : w0.heap.size < b
section
variable {B : Nat} {a0 : Option Addr} {len cap b : Nat} {w0 w1 wr w2 : World} {bl : Nat} {a1 a2 a3 : Option Addr} {c1 c2 c3 : Nat} {T O P : List Q4}
theorem M7.draw (d : M7 B a0 len cap b w0 w1 wr bl a1 c1 a2 c2 a3 c3 T O P) (o : Only b wr w2) (k : Cur B a0 len cap b w2) : M7 B a0 len cap b w0 w1 w2 bl a1 c1 a2 c2 a3 c3 T O P := by
  have h0 := d.z0
  have h1 := d.s.cur.hi
  have hc : ∀ i : Nat, w2.cell? ⟨w0.heap.size, i, none⟩ = wr.cell? ⟨w0.heap.size, i, none⟩ := fun i => o.cell (p := ⟨w0.heap.size, i, none⟩) (by show w0.heap.size < _; omega) (by show w0.heap.size ≠ b; omega)
  exact ⟨d.s.draw o k, d.hb.trans (o.below (by omega) (by omega)), (hc 0).trans d.r0, (hc 1).trans d.r1, (hc 2).trans d.r2, fun i => (o.frozen (p := ⟨w0.heap.size, i, none⟩) (by show w0.heap.size < _; omega) (by show w0.heap.size ≠ b; omega)).trans (d.rf i), d.z0⟩
theorem M7.next (d : M7 B a0 len cap b w0 w1 wr bl a1 c1 a2 c2 a3 c3 T O P) (h : Below wr.heap.size wr w2) : M7 B a0 len cap b w0 w1 w2 bl a1 c1 a2 c2 a3 c3 T O P := d.draw (Only.of_below h) (d.s.cur.mono h)
/-- The draw begins. -/
theorem M7.begin (hb1 : Below (w0.alloc (.cells #[.slice none 0 0, .slice none 0 0, .slice none 0 0] 27)).heap.size (w0.alloc (.cells #[.slice none 0 0, .slice none 0 0, .slice none 0 0] 27)) w1) (hb' : w0.heap.size < b) (k1 : Cur B a0 len cap b w1) (k2 : Cur B a0 len cap b w2) (o2 : Only b w1 w2)
    (q1 : QR w1.heap.size w2 a1 T) (q2 : QR w1.heap.size w2 a2 O) (q3 : QR w1.heap.size w2 a3 P) :
    M7 B a0 len cap b w0 w1 (w2.alloc (.cells #[.slice a1 T.length c1, .slice a2 O.length c2, .slice a3 P.length c3] 27)) w2.heap.size a1 c1 a2 c2 a3 c3 T O P := by
  have hz1 := hb1.size
  simp at hz1
  have hz := o2.size
  have nb := new_below w2 (.cells #[.slice a1 T.length c1, .slice a2 O.length c2, .slice a3 P.length c3] 27)
  have hwr : w0.heap.size < w2.heap.size := by omega
  have hc : ∀ o : Nat, w2.cell? ⟨w0.heap.size, o, none⟩ = (w0.alloc (.cells #[.slice none 0 0, .slice none 0 0, .slice none 0 0] 27)).cell? ⟨w0.heap.size, o, none⟩ := fun o => (o2.cell (p := ⟨w0.heap.size, o, none⟩) (by show w0.heap.size < _; omega) (by show w0.heap.size ≠ b; omega)).trans (hb1.cell (p := ⟨w0.heap.size, o, none⟩) (by show w0.heap.size < _; simp))
  have hf : ∀ o : Nat, w2.frozen? ⟨w0.heap.size, o, none⟩ = (w0.alloc (.cells #[.slice none 0 0, .slice none 0 0, .slice none 0 0] 27)).frozen? ⟨w0.heap.size, o, none⟩ := fun o => (o2.frozen (p := ⟨w0.heap.size, o, none⟩) (by show w0.heap.size < _; omega) (by show w0.heap.size ≠ b; omega)).trans (hb1.frozen (p := ⟨w0.heap.size, o, none⟩) (by show w0.heap.size < _; simp))
  exact ⟨S7.new k2 o2 k1.hi q1 q2 q3, below_two ((start1 hb1).trans (o2.below (by omega) (by omega))) nb, (nb.cell (p := ⟨w0.heap.size, 0, none⟩) hwr).trans ((hc 0).trans (by go_simp)), (nb.cell (p := ⟨w0.heap.size, 1, none⟩) hwr).trans ((hc 1).trans (by go_simp)), (nb.cell (p := ⟨w0.heap.size, 2, none⟩) hwr).trans ((hc 2).trans (by go_simp)), fun o => (nb.frozen (p := ⟨w0.heap.size, o, none⟩) hwr).trans ((hf o).trans (by go_simp)), hb'⟩
/-- The answer is stored. -/
theorem M7.out (d : M7 B a0 len cap b w0 w1 wr bl a1 c1 a2 c2 a3 c3 T O P) (x y z : Value) :
    (Quad (((wr.setCell ⟨w0.heap.size, 0, none⟩ x).setCell ⟨w0.heap.size, 1, none⟩ y).setCell ⟨w0.heap.size, 2, none⟩ z).heap.size (((wr.setCell ⟨w0.heap.size, 0, none⟩ x).setCell ⟨w0.heap.size, 1, none⟩ y).setCell ⟨w0.heap.size, 2, none⟩ z) a1 T ∧ Quad (((wr.setCell ⟨w0.heap.size, 0, none⟩ x).setCell ⟨w0.heap.size, 1, none⟩ y).setCell ⟨w0.heap.size, 2, none⟩ z).heap.size (((wr.setCell ⟨w0.heap.size, 0, none⟩ x).setCell ⟨w0.heap.size, 1, none⟩ y).setCell ⟨w0.heap.size, 2, none⟩ z) a2 O ∧ Quad (((wr.setCell ⟨w0.heap.size, 0, none⟩ x).setCell ⟨w0.heap.size, 1, none⟩ y).setCell ⟨w0.heap.size, 2, none⟩ z).heap.size (((wr.setCell ⟨w0.heap.size, 0, none⟩ x).setCell ⟨w0.heap.size, 1, none⟩ y).setCell ⟨w0.heap.size, 2, none⟩ z) a3 P) ∧
      Below w0.heap.size w0 (((wr.setCell ⟨w0.heap.size, 0, none⟩ x).setCell ⟨w0.heap.size, 1, none⟩ y).setCell ⟨w0.heap.size, 2, none⟩ z) := by
  have h0 := d.z0
  have h1 := d.s.lt
  have hO : Only w0.heap.size wr (((wr.setCell ⟨w0.heap.size, 0, none⟩ x).setCell ⟨w0.heap.size, 1, none⟩ y).setCell ⟨w0.heap.size, 2, none⟩ z) := (((Only.refl w0.heap.size wr).setCell (p := ⟨w0.heap.size, 0, none⟩) rfl _).setCell (p := ⟨w0.heap.size, 1, none⟩) rfl _).setCell (p := ⟨w0.heap.size, 2, none⟩) rfl _
  exact ⟨⟨(d.s.q1.only hO (by omega)).1, (d.s.q2.only hO (by omega)).1, (d.s.q3.only hO (by omega)).1⟩, d.hb.trans (hO.below (Nat.le_refl _) d.hb.size)⟩
end
def DBPost (w : World) (e : Ending) (w' : World) : Prop := ∃ a1 c1 a2 c2 a3 c3 T O P i ns, e = .returned (.tuple #[lendV a1 (List.length T) c1 a2 (List.length O) c2 a3 (List.length P) c3, .int .i64 i, .int .i64 ns]) ∧ (Quad w'.heap.size w' a1 T ∧ Quad w'.heap.size w' a2 O ∧ Quad w'.heap.size w' a3 P) ∧ (T.length ≤ 30 ∧ O.length ≤ 30 ∧ P.length ≤ 30) ∧ Below w.heap.size w w'
section
variable {P : Program}
theorem results_l3 {fn : Func} {p u1 u2 : Tmp} {ty : TypeId} (h : fn.results = #[.cell p ty, .tmp u1, .tmp u2]) (tmps : Array Value) (w : World) (g : Nat) (cs : List Value) {d : TypeDesc}
    (hp : tmps.getD p undef = .pointer (some ⟨g, 0, none⟩)) (hc : ∀ j v, cs[j]? = some v → w.cell? ⟨g, j, none⟩ = some v)
    (hu : P.underlying ty = some d) (hd : (match d with | .struct _ | .array _ _ => true | _ => false) = true) (hi : (P.info? ty).map (·.size) = some cs.length) :
    (results fn tmps).run P w = .ok (.tuple #[.agg cs.toArray, tmps.getD u1 undef, tmps.getD u2 undef]) w := by
  have hp' : tmps[p]?.getD undef = .pointer (some ⟨g, 0, none⟩) := by simpa using hp
  have hl := loadVar_cells (P := P) w g 0 ty cs (fun j v hv => by rw [Nat.zero_add]; exact hc j v hv) hu hd hi
  simp [results, h, hp', asAddr, hl, Sem.run_bind, Result.andThen]
end
set_option maxHeartbeats 4000000 in
theorem drawBound_any {B : Nat} {a0 : Option Addr} {len : Nat} (cap : Nat) {w0 : World} (hs : len ≤ 4096) (row : Row B a0 len w0) (hB : B ≤ w0.heap.size) :
    Calls Try.prog 19 #[.slice a0 len cap] w0 (DBPost w0) := by
  go_enter Try.func19, Try.ntmps19
  go_upto_region 3 with (first
    | (go_at_call 46; refine (new_any cap hs (row.mono ((Below.refl B w0).alloc hB _)) (by simp; omega)).mono ?_; rintro e w1 ⟨b, rfl, hb, k1, hb1⟩; have hb' : w0.heap.size < b := (by simp at hb; omega))
    | (go_at_call 69; refine (l7DrawAny_acc k1).mono ?_; rintro e w2 ⟨a1, c1, a2, c2, a3, c3, T, O, P, rfl, ⟨k2, o2⟩, ⟨hq1, hq2, hq3⟩, hl⟩; have HQ : Hid (QR w1.heap.size w2 a1 T ∧ QR w1.heap.size w2 a2 O ∧ QR w1.heap.size w2 a3 P) := ⟨hq1, hq2, hq3⟩; clear hq1 hq2 hq3))
  obtain ⟨v, hv⟩ : ∃ v, v = w2.alloc (.cells #[.slice a1 T.length c1, .slice a2 O.length c2, .slice a3 P.length c3] 27) := ⟨_, rfl⟩
  rw [← hv]
  have D : Hid (M7 B a0 len cap b w0 w1 v w2.heap.size a1 c1 a2 c2 a3 c3 T O P) := by rw [hv]; exact M7.begin hb1 hb' k1 k2 o2 HQ.out.1 HQ.out.2.1 HQ.out.2.2
  clear hv k1 k2 o2 hb1 hb HQ
  obtain ⟨bl, hbl⟩ : ∃ x, x = w2.heap.size := ⟨_, rfl⟩
  rw [← hbl] at D ⊢
  have HBL : Hid (bl = w2.heap.size) := hbl
  clear hbl
  have n3 : w0.heap.size ≠ bl := by have := D.out.z0; have := D.out.s.lt; have := D.out.s.bl0; omega
  have n2 : bl ≠ w0.heap.size := fun e => n3 e.symm
  have hTi : (T.length : Int) ≤ 30 := by have := hl.1; omega
  have hwT : IntKind.i64.wrap ((T.length : Int) + 1) = (T.length : Int) + 1 := by rw [IntKind.wrap_i64]; omega
  have HL : Hid (T.length ≤ 30 ∧ O.length ≤ 30 ∧ P.length ≤ 30) := ⟨hl.1, hl.2.1, hl.2.2.1⟩
  clear hl
  have j0 := D.out.s.c0
  have j1 := D.out.s.c1'
  have j2 := D.out.s.c2'
  have E : Hid (M7 B a0 len cap b w0 w1 v.drew bl a1 c1 a2 c2 a3 c3 T O P) := D.out.next (Below.refl _ _).drew
  clear D
  go_region_held3 (fun w' => w'.cell? ⟨bl, 0, none⟩ = some (.slice a1 T.length c1) ∧ w'.cell? ⟨bl, 1, none⟩ = some (.slice a2 O.length c2) ∧ w'.cell? ⟨bl, 2, none⟩ = some (.slice a3 P.length c3)) (go_keep)
    (first
      | (go_at_call 62; refine (below_acc ((T.length : Int) + 1) E.out.s.cur (Only.refl _ _) (by omega) (by omega)).mono ?_; rintro e w3 ⟨x3, rfl, hx3, k3, o3⟩; have D3 : Hid (M7 B a0 len cap b w0 w1 w3 bl a1 c1 a2 c2 a3 c3 T O P) := E.out.draw o3 k3; have j0 := D3.out.s.c0; have j1 := D3.out.s.c1'; have j2 := D3.out.s.c2')
      | (go_at_call 70; refine (drawTime_acc D3.out.s.cur (Only.refl _ _)).mono ?_; rintro e w4 ⟨x4, rfl, _, k4, o4⟩; have D4 : Hid (M7 B a0 len cap b w0 w1 w4 bl a1 c1 a2 c2 a3 c3 T O P) := D3.out.draw o4 k4; have j0 := D4.out.s.c0; have j1 := D4.out.s.c1'; have j2 := D4.out.s.c2'; have q0 := D4.out.r0; have q1 := D4.out.r1; have q2 := D4.out.r2; have qf := D4.out.rf))
  go_wp2
  refine bodyPost_ret (results_l3 rfl _ _ _ [.slice a1 T.length c1, .slice a2 O.length c2, .slice a3 P.length c3] rfl (set_three (u0 := .slice none 0 0) (u1 := .slice none 0 0) (u2 := .slice none 0 0) _ _ _ q0 q1 q2) Try.underlying27 rfl (by kernel_rfl)) rfl ?_
  have ho := D4.out.out (.slice a1 T.length c1) (.slice a2 O.length c2) (.slice a3 P.length c3)
  exact ⟨a1, c1, a2, c2, a3, c3, T, O, P, x3, x4, rfl, ho.1, HL.out, ho.2⟩
end Go.Proofs.Ytmophpbfaonfmad
namespace Go.Proofs.Ytmophpbfaonfmad
open Go.ChangeShapes Go.WideShapes Go.ChangeAt Go.RowKit
set_option maxRecDepth 100000
set_option linter.unusedVariables false
set_option linter.unusedSimpArgs false

/-- Quads that lie in a block from lo up to hi. -/
def QB (lo hi : Nat) (w : World) (a : Option Addr) (xs : List Q4) : Prop := Quad hi w a xs ∧ ∀ g o, a = some ⟨g, o, none⟩ → xs ≠ [] → lo ≤ g
theorem QB.only {lo hi x : Nat} {w w' : World} {a : Option Addr} {xs : List Q4} (h : QB lo hi w a xs) (o : Only x w w') (hx : x < lo ∨ hi ≤ x) (hh : hi ≤ w.heap.size) : QB lo hi w' a xs := by
  refine ⟨fun k hk => ?_, h.2⟩
  obtain ⟨g, q, e, hg, c0, c1, c2, c3⟩ := h.1 k hk
  have hlo := h.2 g q e (fun h0 => by subst h0; simp at hk)
  have hn : g ≠ x := by omega
  have hc : ∀ i : Nat, w'.cell? ⟨g, i, none⟩ = w.cell? ⟨g, i, none⟩ := fun i => o.cell (p := ⟨g, i, none⟩) (by show g < _; omega) hn
  exact ⟨g, q, e, hg, (hc _).trans c0, (hc _).trans c1, (hc _).trans c2, (hc _).trans c3⟩
theorem QB.quad {lo hi : Nat} {w : World} {a : Option Addr} {xs : List Q4} (h : QB lo hi w a xs) (hh : hi ≤ w.heap.size) : Quad w.heap.size w a xs := fun k hk => by
  obtain ⟨g, q, e, hg, hc⟩ := h.1 k hk
  exact ⟨g, q, e, Nat.lt_of_lt_of_le hg hh, hc⟩
structure N7 (B : Nat) (a0 : Option Addr) (len cap b : Nat) (w0 wr : World) (lo bl mk : Nat) (a1 : Option Addr) (c1 : Nat) (a2 : Option Addr) (c2 : Nat) (a3 : Option Addr) (c3 : Nat) (T O P : List Q4) (vt : Value) (S : List Q4) : Prop where
  cur : Cur B a0 len cap b wr
  hb : Below w0.heap.size w0 wr
  r0 : wr.cell? ⟨w0.heap.size, 0, none⟩ = some (.slice none 0 0)
  r1 : wr.cell? ⟨w0.heap.size, 1, none⟩ = some (.slice none 0 0)
  r2 : wr.cell? ⟨w0.heap.size, 2, none⟩ = some (.slice none 0 0)
  rf : ∀ o : Nat, wr.frozen? ⟨w0.heap.size, o, none⟩ = false
  z0 : w0.heap.size < b
  z1 : b < lo
  z2 : lo ≤ bl
  z3 : bl < mk
  z4 : mk ≤ wr.heap.size
  c0 : wr.cell? ⟨bl, 0, none⟩ = some (.slice a1 T.length c1)
  c1' : wr.cell? ⟨bl, 1, none⟩ = some (.slice a2 O.length c2)
  c2' : wr.cell? ⟨bl, 2, none⟩ = some (.slice a3 P.length c3)
  q1 : QB lo bl wr a1 T
  q2 : QB lo bl wr a2 O
  q3 : QB lo bl wr a3 P
  own : wr.ownsRow mk 34 4 vt S.length (flatQ S)
section
variable {B : Nat} {a0 : Option Addr} {len cap b : Nat} {w0 wr w2 : World} {lo bl mk : Nat} {a1 a2 a3 : Option Addr} {c1 c2 c3 : Nat} {T O P : List Q4} {vt : Value} {S : List Q4}
/-- A block behind the variable has turned, or the cursor's; the list is told anew. -/
theorem N7.keep {x : Nat} {v' : Value} {S' : List Q4} (d : N7 B a0 len cap b w0 wr lo bl mk a1 c1 a2 c2 a3 c3 T O P vt S) (o : Only x wr w2) (hx : x = b ∨ mk ≤ x) (k : Cur B a0 len cap b w2) (ho : w2.ownsRow mk 34 4 v' S'.length (flatQ S')) : N7 B a0 len cap b w0 w2 lo bl mk a1 c1 a2 c2 a3 c3 T O P v' S' := by
  have h0 := d.z0
  have h1 := d.z1
  have h2 := d.z2
  have h3 := d.z3
  have h4 := d.z4
  have hz := o.size
  have n0 : w0.heap.size ≠ x := by omega
  have n1 : bl ≠ x := by omega
  have hc : ∀ i : Nat, w2.cell? ⟨w0.heap.size, i, none⟩ = wr.cell? ⟨w0.heap.size, i, none⟩ := fun i => o.cell (p := ⟨w0.heap.size, i, none⟩) (by show w0.heap.size < _; omega) n0
  have hl : ∀ i : Nat, w2.cell? ⟨bl, i, none⟩ = wr.cell? ⟨bl, i, none⟩ := fun i => o.cell (p := ⟨bl, i, none⟩) (by show bl < _; omega) n1
  exact ⟨k, d.hb.trans (o.below (by omega) d.hb.size), (hc 0).trans d.r0, (hc 1).trans d.r1, (hc 2).trans d.r2, fun i => (o.frozen (p := ⟨w0.heap.size, i, none⟩) (by show w0.heap.size < _; omega) n0).trans (d.rf i), h0, h1, h2, h3, by omega, (hl 0).trans d.c0, (hl 1).trans d.c1', (hl 2).trans d.c2', d.q1.only o (by omega) (by omega), d.q2.only o (by omega) (by omega), d.q3.only o (by omega) (by omega), ho⟩
theorem N7.draw (d : N7 B a0 len cap b w0 wr lo bl mk a1 c1 a2 c2 a3 c3 T O P vt S) (o : Only b wr w2) (k : Cur B a0 len cap b w2) : N7 B a0 len cap b w0 w2 lo bl mk a1 c1 a2 c2 a3 c3 T O P vt S :=
  d.keep o (.inl rfl) k (row_only d.own o (by have := d.z1; have := d.z2; have := d.z3; omega))
theorem N7.next (d : N7 B a0 len cap b w0 wr lo bl mk a1 c1 a2 c2 a3 c3 T O P vt S) (h : Below wr.heap.size wr w2) : N7 B a0 len cap b w0 w2 lo bl mk a1 c1 a2 c2 a3 c3 T O P vt S := d.draw (Only.of_below h) (d.cur.mono h)
/-- A number of the list is another one. -/
theorem N7.put {g c j : Nat} (d : N7 B a0 len cap b w0 wr lo bl mk a1 c1 a2 c2 a3 c3 T O P (.slice (some ⟨g, 0, none⟩) S.length c) S) (hg : mk ≤ g) (z : Int) :
    ∃ S', S'.length = S.length ∧ N7 B a0 len cap b w0 (wr.setCell ⟨g, j, none⟩ (.int .i64 z)) lo bl mk a1 c1 a2 c2 a3 c3 T O P (.slice (some ⟨g, 0, none⟩) S.length c) S' := by
  have h1 := d.z1
  have h2 := d.z2
  have h3 := d.z3
  have hB := d.cur.lo
  obtain ⟨S', hl, ho⟩ := own_put d.own j z
  have os : Only g wr (wr.setCell ⟨g, j, none⟩ (.int .i64 z)) := (Only.refl g wr).setCell (p := ⟨g, j, none⟩) rfl _
  have hlo : Below mk wr (wr.setCell ⟨g, j, none⟩ (.int .i64 z)) := (Below.refl mk wr).setCell (by exact hg) _
  exact ⟨S', hl, d.keep os (.inr hg) (d.cur.under hlo (by omega)) ho⟩
end
end Go.Proofs.Ytmophpbfaonfmad
