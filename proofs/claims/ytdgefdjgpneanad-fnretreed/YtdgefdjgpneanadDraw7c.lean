/- The draws of a Lend: spec.l7DrawAny. -/
import Derived.Test.YtdgefdjgpneanadDraw7b
namespace Go.Proofs.Ytdgefdjgpneanad
open Go.ChangeShapes Go.WideShapes Go.ChangeAt Go.RowKit
set_option maxRecDepth 100000
set_option linter.unusedVariables false
set_option linter.unusedSimpArgs false

/-- A list lies in memory, in a block from lo on. -/
def QR (lo : Nat) (w : World) (a : Option Addr) (xs : List Q4) : Prop := Quad w.heap.size w a xs ∧ ∀ g o, a = some ⟨g, o, none⟩ → xs ≠ [] → lo ≤ g
theorem qv_qr {w : World} {lo n c : Nat} {a : Option Addr} {xs : List Q4} (h : QV w lo (.slice a n c) xs) : QR lo w a xs := by
  refine ⟨h.quad.2, fun g o e hx => ?_⟩
  rcases h with ⟨g', cap, e', h1, _⟩ | ⟨_, e'⟩
  · injection e' with e1 _ _
    rw [e] at e1
    injection e1 with e1
    injection e1 with e1
    omega
  · exact absurd e' hx
theorem QR.only {lo b : Nat} {w w' : World} {a : Option Addr} {xs : List Q4} (h : QR lo w a xs) (o : Only b w w') (hb : b < lo) : QR lo w' a xs := by
  refine ⟨fun k hk => ?_, h.2⟩
  obtain ⟨g, q, e, hg, hc⟩ := h.1 k hk
  have hlo := h.2 g q e (fun h0 => by subst h0; simp at hk)
  have hn : g ≠ b := by omega
  exact ⟨g, q, e, Nat.lt_of_lt_of_le hg o.size, (o.cell (p := ⟨g, _, none⟩) hg hn).trans hc.1, (o.cell (p := ⟨g, _, none⟩) hg hn).trans hc.2.1, (o.cell (p := ⟨g, _, none⟩) hg hn).trans hc.2.2.1, (o.cell (p := ⟨g, _, none⟩) hg hn).trans hc.2.2.2⟩
theorem QR.lower {lo lo' : Nat} {w : World} {a : Option Addr} {xs : List Q4} (h : QR lo w a xs) (hl : lo' ≤ lo) : QR lo' w a xs := ⟨h.1, fun g o e hx => Nat.le_trans hl (h.2 g o e hx)⟩
/-- A Lend in the variable bl, whatever its numbers. -/
def Z7 (B : Nat) (a0 : Option Addr) (len cap b : Nat) (w wd : World) (bl : Nat) : Prop := ∃ a1 c1 a2 c2 a3 c3 T O P, (Cur B a0 len cap b wd ∧ Only b w wd) ∧ (wd.cell? ⟨bl, 0, none⟩ = some (.slice a1 (List.length T) c1) ∧ wd.cell? ⟨bl, 1, none⟩ = some (.slice a2 (List.length O) c2) ∧ wd.cell? ⟨bl, 2, none⟩ = some (.slice a3 (List.length P) c3)) ∧ (QR w.heap.size wd a1 T ∧ QR w.heap.size wd a2 O ∧ QR w.heap.size wd a3 P) ∧ (T.length ≤ 30 ∧ O.length ≤ 30 ∧ P.length ≤ 30 ∧ 1 ≤ T.length)
section
variable {B : Nat} {a0 : Option Addr} {len cap b : Nat} {w wr : World} {bl : Nat} {T O P : List Q4}
theorem z7_of {a1 a2 a3 : Option Addr} {c1 c2 c3 : Nat} (d : DL B a0 len cap b w wr bl (.slice a1 T.length c1) (.slice a2 O.length c2) (.slice a3 P.length c3) T O P) (l : Ln T O P) : Z7 B a0 len cap b w wr bl :=
  ⟨a1, c1, a2, c2, a3, c3, T, O, P, ⟨d.cur, d.only⟩, ⟨d.c0, d.c1, d.c2⟩, ⟨qv_qr d.lv.t, qv_qr d.lv.o, qv_qr d.lv.p⟩, l.2.1, by have := l.2.2.1; have := l.2.1; omega, by have := l.2.2.2; have := l.2.1; omega, l.1⟩
theorem lv_putT {w : World} {lo : Nat} {s2 s3 : Value} {g c : Nat} {T O P : List Q4} (h : LV w lo (.slice (some ⟨g, 0, none⟩) T.length (c + 1)) s2 s3 T O P) (j : Nat) (z : Int) : ∃ T' : List Q4, T'.length = T.length ∧ LV (w.setCell ⟨g, j, none⟩ (.int .i64 z)) lo (.slice (some ⟨g, 0, none⟩) T.length (c + 1)) s2 s3 T' O P := by
  have hg := OnlyP.of (OnlyO.of_grown (grown_set w g j (.int .i64 z)))
  rcases h.t with ⟨g', cap, e, h1, h2, f, hc⟩ | ⟨⟨a, e⟩, _⟩
  · injection e with e1 e2 e3
    injection e1 with e1
    injection e1 with e1
    subst e1 e3
    obtain ⟨T', hl, f'⟩ := qfill_put f rfl (j := j) z
    exact ⟨T', hl, ⟨.inl ⟨g, c + 1, by rw [hl], h1, by simpa using h2, by rw [hl]; exact f', by omega⟩, h.o.onlyP hg (fun x hx e => h.to g rfl (by rw [e]; exact hx)), h.p.onlyP hg (fun x hx e => h.tp g rfl (by rw [e]; exact hx)), h.to, h.tp, h.op⟩⟩
  · injection e with _ _ e3
    cases e3
theorem DL.putT {s2 s3 : Value} {g c : Nat} (d : DL B a0 len cap b w wr bl (.slice (some ⟨g, 0, none⟩) T.length (c + 1)) s2 s3 T O P) (j : Nat) (z : Int) : ∃ T' : List Q4, T'.length = T.length ∧ DL B a0 len cap b w (wr.setCell ⟨g, j, none⟩ (.int .i64 z)) bl (.slice (some ⟨g, 0, none⟩) T.length (c + 1)) s2 s3 T' O P := by
  obtain ⟨T', hl, lv⟩ := lv_putT d.lv j z
  have hin : inL (.slice (some ⟨g, 0, none⟩) T.length (c + 1)) s2 s3 g := .inl rfl
  have hlo := (d.lv.lo hin).1
  have hn : g ≠ bl := fun e => d.ap (by rw [← e]; exact hin)
  have hB : Below w.heap.size wr (wr.setCell ⟨g, j, none⟩ (.int .i64 z)) := (Below.refl _ _).setCell (by simp only; omega) _
  exact ⟨T', hl, ⟨d.cur.under hB d.lt, only_low d.only hB, d.lt, d.bl0, by simpa using d.bl1, (set_far hn).trans d.c0, (set_far hn).trans d.c1, (set_far hn).trans d.c2, fun i => by simpa only [World.frozen?_setCell] using d.fr i, lv, d.ap⟩⟩
theorem z7_putT {v2 v3 : Option Addr} {k2 k3 g c : Nat} (d : DL B a0 len cap b w wr bl (.slice (some ⟨g, 0, none⟩) T.length (c + 1)) (.slice v2 O.length k2) (.slice v3 P.length k3) T O P) (l : Ln T O P) (j : Nat) (z : Int) : Z7 B a0 len cap b w (wr.setCell ⟨g, j, none⟩ (.int .i64 z)) bl := by
  obtain ⟨T', hl, d'⟩ := d.putT j z
  rw [← hl] at d'
  exact z7_of d' (by unfold Ln at l ⊢; omega)
theorem lv_putO {w : World} {lo : Nat} {s1 s3 : Value} {g c : Nat} {T O P : List Q4} (h : LV w lo s1 (.slice (some ⟨g, 0, none⟩) O.length (c + 1)) s3 T O P) (j : Nat) (z : Int) : ∃ O' : List Q4, O'.length = O.length ∧ LV (w.setCell ⟨g, j, none⟩ (.int .i64 z)) lo s1 (.slice (some ⟨g, 0, none⟩) O.length (c + 1)) s3 T O' P := by
  have hg := OnlyP.of (OnlyO.of_grown (grown_set w g j (.int .i64 z)))
  rcases h.o with ⟨g', cap, e, h1, h2, f, hc⟩ | ⟨⟨a, e⟩, _⟩
  · injection e with e1 e2 e3
    injection e1 with e1
    injection e1 with e1
    subst e1 e3
    obtain ⟨O', hl, f'⟩ := qfill_put f rfl (j := j) z
    exact ⟨O', hl, ⟨h.t.onlyP hg (fun x hx e => h.to x hx (by rw [← e]; rfl)), .inl ⟨g, c + 1, by rw [hl], h1, by simpa using h2, by rw [hl]; exact f', by omega⟩, h.p.onlyP hg (fun x hx e => h.op g rfl (by rw [e]; exact hx)), h.to, h.tp, h.op⟩⟩
  · injection e with _ _ e3
    cases e3
theorem DL.putO {s1 s3 : Value} {g c : Nat} (d : DL B a0 len cap b w wr bl s1 (.slice (some ⟨g, 0, none⟩) O.length (c + 1)) s3 T O P) (j : Nat) (z : Int) : ∃ O' : List Q4, O'.length = O.length ∧ DL B a0 len cap b w (wr.setCell ⟨g, j, none⟩ (.int .i64 z)) bl s1 (.slice (some ⟨g, 0, none⟩) O.length (c + 1)) s3 T O' P := by
  obtain ⟨O', hl, lv⟩ := lv_putO d.lv j z
  have hin : inL s1 (.slice (some ⟨g, 0, none⟩) O.length (c + 1)) s3 g := .inr (.inl rfl)
  have hlo := (d.lv.lo hin).1
  have hn : g ≠ bl := fun e => d.ap (by rw [← e]; exact hin)
  have hB : Below w.heap.size wr (wr.setCell ⟨g, j, none⟩ (.int .i64 z)) := (Below.refl _ _).setCell (by simp only; omega) _
  exact ⟨O', hl, ⟨d.cur.under hB d.lt, only_low d.only hB, d.lt, d.bl0, by simpa using d.bl1, (set_far hn).trans d.c0, (set_far hn).trans d.c1, (set_far hn).trans d.c2, fun i => by simpa only [World.frozen?_setCell] using d.fr i, lv, d.ap⟩⟩
theorem z7_putO {v1 v3 : Option Addr} {k1 k3 g c : Nat} (d : DL B a0 len cap b w wr bl (.slice v1 T.length k1) (.slice (some ⟨g, 0, none⟩) O.length (c + 1)) (.slice v3 P.length k3) T O P) (l : Ln T O P) (j : Nat) (z : Int) : Z7 B a0 len cap b w (wr.setCell ⟨g, j, none⟩ (.int .i64 z)) bl := by
  obtain ⟨O', hl, d'⟩ := d.putO j z
  rw [← hl] at d'
  exact z7_of d' (by unfold Ln at l ⊢; omega)
theorem lv_putP {w : World} {lo : Nat} {s1 s2 : Value} {g c : Nat} {T O P : List Q4} (h : LV w lo s1 s2 (.slice (some ⟨g, 0, none⟩) P.length (c + 1)) T O P) (j : Nat) (z : Int) : ∃ P' : List Q4, P'.length = P.length ∧ LV (w.setCell ⟨g, j, none⟩ (.int .i64 z)) lo s1 s2 (.slice (some ⟨g, 0, none⟩) P.length (c + 1)) T O P' := by
  have hg := OnlyP.of (OnlyO.of_grown (grown_set w g j (.int .i64 z)))
  rcases h.p with ⟨g', cap, e, h1, h2, f, hc⟩ | ⟨⟨a, e⟩, _⟩
  · injection e with e1 e2 e3
    injection e1 with e1
    injection e1 with e1
    subst e1 e3
    obtain ⟨P', hl, f'⟩ := qfill_put f rfl (j := j) z
    exact ⟨P', hl, ⟨h.t.onlyP hg (fun x hx e => h.tp x hx (by rw [← e]; rfl)), h.o.onlyP hg (fun x hx e => h.op x hx (by rw [← e]; rfl)), .inl ⟨g, c + 1, by rw [hl], h1, by simpa using h2, by rw [hl]; exact f', by omega⟩, h.to, h.tp, h.op⟩⟩
  · injection e with _ _ e3
    cases e3
theorem DL.putP {s1 s2 : Value} {g c : Nat} (d : DL B a0 len cap b w wr bl s1 s2 (.slice (some ⟨g, 0, none⟩) P.length (c + 1)) T O P) (j : Nat) (z : Int) : ∃ P' : List Q4, P'.length = P.length ∧ DL B a0 len cap b w (wr.setCell ⟨g, j, none⟩ (.int .i64 z)) bl s1 s2 (.slice (some ⟨g, 0, none⟩) P.length (c + 1)) T O P' := by
  obtain ⟨P', hl, lv⟩ := lv_putP d.lv j z
  have hin : inL s1 s2 (.slice (some ⟨g, 0, none⟩) P.length (c + 1)) g := .inr (.inr rfl)
  have hlo := (d.lv.lo hin).1
  have hn : g ≠ bl := fun e => d.ap (by rw [← e]; exact hin)
  have hB : Below w.heap.size wr (wr.setCell ⟨g, j, none⟩ (.int .i64 z)) := (Below.refl _ _).setCell (by simp only; omega) _
  exact ⟨P', hl, ⟨d.cur.under hB d.lt, only_low d.only hB, d.lt, d.bl0, by simpa using d.bl1, (set_far hn).trans d.c0, (set_far hn).trans d.c1, (set_far hn).trans d.c2, fun i => by simpa only [World.frozen?_setCell] using d.fr i, lv, d.ap⟩⟩
theorem z7_putP {v1 v2 : Option Addr} {k1 k2 g c : Nat} (d : DL B a0 len cap b w wr bl (.slice v1 T.length k1) (.slice v2 O.length k2) (.slice (some ⟨g, 0, none⟩) P.length (c + 1)) T O P) (l : Ln T O P) (j : Nat) (z : Int) : Z7 B a0 len cap b w (wr.setCell ⟨g, j, none⟩ (.int .i64 z)) bl := by
  obtain ⟨P', hl, d'⟩ := d.putP j z
  rw [← hl] at d'
  exact z7_of d' (by unfold Ln at l ⊢; omega)
theorem DL.lv_bl {s1 s2 s3 : Value} (d : DL B a0 len cap b w wr bl s1 s2 s3 T O P) (i : Nat) (u : Value) : LV (wr.setCell ⟨bl, i, none⟩ u) w.heap.size s1 s2 s3 T O P :=
  d.lv.onlyP (p := fun k => k = bl) ((Only.refl bl wr).setCell rfl u).onlyP (fun g hg e => d.ap (by subst e; exact .inl hg)) (fun g hg e => d.ap (by subst e; exact .inr (.inl hg))) (fun g hg e => d.ap (by subst e; exact .inr (.inr hg)))
theorem z7_store {a1 a2 : Option Addr} {c1 c2 : Nat} {s3 : Value} (d : DL B a0 len cap b w wr bl (.slice a1 T.length c1) (.slice a2 O.length c2) s3 T O P) (l : Ln T O P) {a : Option Addr} {n c : Nat} {xs : List Q4} (hn : n = xs.length) (hx : xs.length ≤ 30) (q : QR w.heap.size (wr.setCell ⟨bl, 2, none⟩ (.slice a n c)) a xs) : Z7 B a0 len cap b w (wr.setCell ⟨bl, 2, none⟩ (.slice a n c)) bl := by
  subst hn
  have h0 := d.bl0
  have hB : Below w.heap.size wr (wr.setCell ⟨bl, 2, none⟩ (.slice a xs.length c)) := (Below.refl _ _).setCell (by simp only; omega) _
  have lv := d.lv_bl 2 (.slice a xs.length c)
  exact ⟨a1, c1, a2, c2, a, c, T, O, xs, ⟨d.cur.under hB d.lt, only_low d.only hB⟩, ⟨(set_other (by decide)).trans d.c0, (set_other (by decide)).trans d.c1, World.cell?_setCell_same' _ _ _ (by rw [d.c2]; rfl)⟩, ⟨qv_qr lv.t, qv_qr lv.o, q⟩, l.2.1, by have := l.2.2.1; have := l.2.1; omega, hx, l.1⟩
theorem quad_tail {W : World} {a : Nat} {xs : List Q4} (h : Quad W.heap.size W (some ⟨a, 0, none⟩) xs) : Quad W.heap.size W (some ⟨a, 4, none⟩) xs.tail := by
  intro k hk
  have hk' : k + 1 < xs.length := by simp at hk; omega
  obtain ⟨b, o, e, hb, hc⟩ := h (k + 1) hk'
  injection e with e
  injection e with e1 e2
  subst e1 e2
  refine ⟨a, 4, rfl, hb, ?_⟩
  have e4 : 0 + (k + 1) * 4 = 4 + k * 4 := by omega
  rw [e4] at hc
  simpa using hc
theorem tab3_in (a b c : Int) (X : Nat) (h : X < 3) : ∃ y : Int, (#[Value.int IntKind.i64 a, Value.int IntKind.i64 b, Value.int IntKind.i64 c] : Array Value)[X]? = some (.int .i64 y) := by
  match X, h with
  | 0, _ => exact ⟨_, rfl⟩
  | 1, _ => exact ⟨_, rfl⟩
  | 2, _ => exact ⟨_, rfl⟩
theorem z7_cut {a1 a2 : Option Addr} {c1 c2 g c : Nat} (d : DL B a0 len cap b w wr bl (.slice a1 T.length c1) (.slice a2 O.length c2) (.slice (some ⟨g, 0, none⟩) P.length (c + 1)) T O P) (l : Ln T O P) : Z7 B a0 len cap b w (wr.setCell ⟨bl, 2, none⟩ (.slice (some ⟨g, 4, none⟩) (P.length - 1) c)) bl := by
  have lv := d.lv_bl 2 (.slice (some ⟨g, 4, none⟩) (P.length - 1) c)
  have hq := qv_qr lv.p
  refine z7_store d l (xs := P.tail) (by simp) (by have := l.2.2.2; have := l.2.1; simp; omega) ⟨quad_tail hq.1, fun g' o e hx => ?_⟩
  injection e with e
  injection e with e1 e2
  subst e1
  exact hq.2 g 0 rfl (fun h => hx (by rw [h]; rfl))
theorem z7_none {a1 a2 a3 : Option Addr} {c1 c2 c3 : Nat} (d : DL B a0 len cap b w wr bl (.slice a1 T.length c1) (.slice a2 O.length c2) (.slice a3 P.length c3) T O P) (l : Ln T O P) (h1 : P.length ≤ 1) (a : Option Addr) : Z7 B a0 len cap b w (wr.setCell ⟨bl, 2, none⟩ (.slice a (P.length - 1) 0)) bl :=
  z7_store d l (xs := []) (by simp; omega) (by simp) ⟨Quad.nil _ _ _, fun _ _ _ h => absurd rfl h⟩
end
/-- A Lend, drawn. -/
def A7Post (B : Nat) (a0 : Option Addr) (len cap b : Nat) (w : World) (e : Ending) (w' : World) : Prop := ∃ a1 c1 a2 c2 a3 c3 T O P, e = .returned (lendV a1 (List.length T) c1 a2 (List.length O) c2 a3 (List.length P) c3) ∧ (Cur B a0 len cap b w' ∧ Only b w w') ∧ (QR w.heap.size w' a1 T ∧ QR w.heap.size w' a2 O ∧ QR w.heap.size w' a3 P) ∧ (T.length ≤ 30 ∧ O.length ≤ 30 ∧ P.length ≤ 30 ∧ 1 ≤ T.length)
set_option maxHeartbeats 8000000 in
theorem l7DrawAny_acc {B : Nat} {a0 : Option Addr} {len cap b : Nat} {w0 : World} (k : Cur B a0 len cap b w0) :
    Calls Try.prog 69 #[.pointer (some ⟨b, 0, none⟩)] w0 (A7Post B a0 len cap b w0) := by
  have hlt := k.hi
  obtain ⟨w, hw, kw, ow, zw, r0, r1, r2, rf⟩ : ∃ w, w0.alloc (.cells #[.slice none 0 0, .slice none 0 0, .slice none 0 0] 27) = w ∧ Cur B a0 len cap b w ∧ Only b w0 w ∧ w.heap.size = w0.heap.size + 1 ∧ w.cell? ⟨w0.heap.size, 0, none⟩ = some (.slice none 0 0) ∧ w.cell? ⟨w0.heap.size, 1, none⟩ = some (.slice none 0 0) ∧ w.cell? ⟨w0.heap.size, 2, none⟩ = some (.slice none 0 0) ∧ ∀ i, w.frozen? ⟨w0.heap.size, i, none⟩ = false :=
    ⟨_, rfl, k.alloc _, (Only.refl _ _).alloc _, by simp, by go_simp, by go_simp, by go_simp, fun i => by go_simp⟩
  go_enter Try.func69, Try.ntmps69
  go_upto_region 1 with (fail)
  clear hw
  have hbw : b < w.heap.size := kw.hi
  go_upto_region 2 with (first
    | (go_at_call 116; refine (l7Draw_acc kw).mono ?_; rintro e wC ⟨a1, c1, a2, c2, a3, c3, T, O, P, rfl, kC, oC, lvC, hln⟩))
  have HL : Hid (Ln T O P) := hln
  obtain ⟨gT, gO, gP, dT, dO, dP, hrows⟩ : ∃ gT gO gP dT dO dP, (Value.slice a1 T.length c1 = .slice (some ⟨gT, 0, none⟩) T.length (dT + 1) ∧ Value.slice a2 O.length c2 = .slice (some ⟨gO, 0, none⟩) O.length (dO + 1) ∧ Value.slice a3 P.length c3 = .slice (some ⟨gP, 0, none⟩) P.length (dP + 1)) ∧ P.length ≤ dP + 1 := by
    obtain ⟨l1, l2, l3, l4⟩ := hln
    obtain ⟨gT, dT, e1, _⟩ := qv_row lvC.t (by omega)
    obtain ⟨gO, dO, e2, _⟩ := qv_row lvC.o (by omega)
    obtain ⟨gP, dP, e3, _, _, _, h3⟩ := qv_row lvC.p (by omega)
    exact ⟨gT, gO, gP, dT, dO, dP, ⟨e1, e2, e3⟩, h3⟩
  obtain ⟨⟨eT, eO, eP⟩, hdP⟩ := hrows
  injection eT with eT1 eT2 eT3
  injection eO with eO1 eO2 eO3
  injection eP with eP1 eP2 eP3
  subst eT1 eT3 eO1 eO3 eP1 eP3
  clear eT2 eO2 eP2
  have D0 : Hid (DL B a0 len cap b w (wC.alloc (.cells #[.slice (some ⟨gT, 0, none⟩) T.length (dT + 1), .slice (some ⟨gO, 0, none⟩) O.length (dO + 1), .slice (some ⟨gP, 0, none⟩) P.length (dP + 1)] 27)) wC.heap.size (.slice (some ⟨gT, 0, none⟩) T.length (dT + 1)) (.slice (some ⟨gO, 0, none⟩) O.length (dO + 1)) (.slice (some ⟨gP, 0, none⟩) P.length (dP + 1)) T O P) := by
    have h := DL.new kC oC hbw lvC
    exact h
  clear lvC kC oC
  obtain ⟨v, hv⟩ : ∃ v, wC.alloc (.cells #[.slice (some ⟨gT, 0, none⟩) T.length (dT + 1), .slice (some ⟨gO, 0, none⟩) O.length (dO + 1), .slice (some ⟨gP, 0, none⟩) P.length (dP + 1)] 27) = v := ⟨_, rfl⟩
  obtain ⟨bl, hbl⟩ : ∃ bl, wC.heap.size = bl := ⟨_, rfl⟩
  rw [hv, hbl] at D0 ⊢
  clear hv hbl
  have hTi : (1 : Int) ≤ (T.length : Int) := by have := hln.1; omega
  have hTj : (T.length : Int) ≤ 30 := by have := hln.2.1; omega
  have HlO : Hid (O.length = T.length) := hln.2.2.1
  have HlP : Hid (P.length = T.length) := hln.2.2.2
  clear hln
  go_upto_if 8 with (first
    | (go_at_call 61; refine (once_acc _ D0.out.cur (Only.refl _ _) (by omega) (by omega)).mono ?_; rintro e vO ⟨fO, rfl, kO, oO⟩; have D1 : Hid (DL B a0 len cap b w vO bl (.slice (some ⟨gT, 0, none⟩) T.length (dT + 1)) (.slice (some ⟨gO, 0, none⟩) O.length (dO + 1)) (.slice (some ⟨gP, 0, none⟩) P.length (dP + 1)) T O P) := D0.out.draw oO kO))
  clear D0 kO oO
  go_cut [4, 6] from 9 to 75 (fun _ _ wd => Z7 B a0 len cap b w wd bl)
  case first =>
    cases fO
    · go_wp2
      go_meet
      exact z7_of D1.out HL.out
    · have y0 := D1.out.c0
      go_upto_region 4 with (first
        | (go_at_call 62; refine (below_acc _ D1.out.cur (Only.refl _ _) (by omega) (by omega)).mono ?_; rintro e v2 ⟨xk, rfl, hxk, k2, o2⟩; have D2 : Hid (DL B a0 len cap b w v2 bl (.slice (some ⟨gT, 0, none⟩) T.length (dT + 1)) (.slice (some ⟨gO, 0, none⟩) O.length (dO + 1)) (.slice (some ⟨gP, 0, none⟩) P.length (dP + 1)) T O P) := D1.out.draw o2 k2; obtain ⟨k, rfl⟩ := Int.eq_ofNat_of_zero_le hxk.1))
      have hk : k < T.length := by omega
      have hkO : k < O.length := by rw [HlO.out]; exact hk
      have hkP : k < P.length := by rw [HlP.out]; exact hk
      have kT : (k : Int) < (T.length : Int) := by omega
      have kO : (k : Int) < (O.length : Int) := by omega
      have kP : (k : Int) < (P.length : Int) := by omega
      have hP30 : (P.length : Int) ≤ 30 := by rw [HlP.out]; exact hTj
      have hP1 : (1 : Int) ≤ (P.length : Int) := by omega
      clear D1 k2 o2 y0 hxk
      obtain ⟨cc, hcc⟩ : ∃ cc, T[k].2.2.1 = cc := ⟨_, rfl⟩
      obtain ⟨ll, hll⟩ : ∃ ll, O[k].2.2.1 = ll := ⟨_, rfl⟩
      obtain ⟨tt, htt⟩ : ∃ tt, P[k].2.2.2 = tt := ⟨_, rfl⟩
      have HC : Hid (∀ W, DL B a0 len cap b w W bl (.slice (some ⟨gT, 0, none⟩) T.length (dT + 1)) (.slice (some ⟨gO, 0, none⟩) O.length (dO + 1)) (.slice (some ⟨gP, 0, none⟩) P.length (dP + 1)) T O P → (W.cell? ⟨bl, 0, none⟩ = some (.slice (some ⟨gT, 0, none⟩) T.length (dT + 1)) ∧ W.cell? ⟨bl, 1, none⟩ = some (.slice (some ⟨gO, 0, none⟩) O.length (dO + 1)) ∧ W.cell? ⟨bl, 2, none⟩ = some (.slice (some ⟨gP, 0, none⟩) P.length (dP + 1))) ∧ (W.cell? ⟨gT, k * 4 + 2, none⟩ = some (.int .i64 cc) ∧ W.cell? ⟨gO, k * 4 + 2, none⟩ = some (.int .i64 ll) ∧ W.cell? ⟨gP, k * 4 + 3, none⟩ = some (.int .i64 tt)) ∧ (∃ z, W.cell? ⟨gO, k * 4, none⟩ = some (.int .i64 z)) ∧ (W.frozen? ⟨gT, k * 4 + 2, none⟩ = false ∧ W.frozen? ⟨gO, k * 4 + 2, none⟩ = false ∧ W.frozen? ⟨gP, k * 4 + 3, none⟩ = false ∧ W.frozen? ⟨gO, k * 4, none⟩ = false ∧ ∀ i, W.frozen? ⟨bl, i, none⟩ = false)) := fun W d => by
        obtain ⟨x1, _, e1, _, _, f1, _⟩ := qv_row d.lv.t (by omega)
        obtain ⟨x2, _, e2, _, _, f2, _⟩ := qv_row d.lv.o (by omega)
        obtain ⟨x3, _, e3, _, _, f3, _⟩ := qv_row d.lv.p (by omega)
        injection e1 with e1 _ _
        injection e1 with e1
        injection e1 with e1
        injection e2 with e2 _ _
        injection e2 with e2
        injection e2 with e2
        injection e3 with e3 _ _
        injection e3 with e3
        injection e3 with e3
        subst e1 e2 e3
        have g1 := f1.got k hk hk
        have g2 := f2.got k hkO hkO
        have g3 := f3.got k hkP hkP
        rw [hcc] at g1
        rw [hll] at g2
        rw [htt] at g3
        exact ⟨⟨d.c0, d.c1, d.c2⟩, ⟨g1.2.2.1, g2.2.2.1, g3.2.2.2⟩, ⟨_, g2.1⟩, (f1.any _ (by omega)).2, (f2.any _ (by omega)).2, (f3.any _ (by omega)).2, (f2.any _ (by omega)).2, d.fr⟩
      clear hcc hll htt
      go_upto_region 5 with (first
        | (go_at_call 62; refine (below_acc _ D2.out.cur (Only.refl _ _) (by omega) (by omega)).mono ?_; rintro e v3 ⟨x5, rfl, hx5, k5, o5⟩; have D : Hid (DL B a0 len cap b w v3 bl (.slice (some ⟨gT, 0, none⟩) T.length (dT + 1)) (.slice (some ⟨gO, 0, none⟩) O.length (dO + 1)) (.slice (some ⟨gP, 0, none⟩) P.length (dP + 1)) T O P) := D2.out.draw o5 k5))
      clear D2 k5 o5
      have ⟨⟨b0, b1, b2⟩, ⟨s0, s1, s2⟩, ⟨zz, s3⟩, f0, f1, f2, f3, fb⟩ := HC.out _ D.out
      rcases (show x5 = 0 ∨ x5 = 1 ∨ x5 = 2 ∨ x5 = 3 ∨ x5 = 4 from (by omega)) with rfl | rfl | rfl | rfl | rfl
      · go_upto_region 6 with (fail)
        refine region_late (S := fun w' => w'.cell? ⟨bl, 1, none⟩ = some (.slice (some ⟨gO, 0, none⟩) O.length (dO + 1)) ∧ w'.cell? ⟨gO, k * 4 + 2, none⟩ = some (.int .i64 ll)) 17 (by kernel_rfl) (by go_simp) (fun hS => ?_)
        refine late_take (i := 0) (v := ?_) rfl (by kernel_rfl) (by kernel_rfl) (by kernel_rfl) (by kernel_rfl) (fun _ _ _ h => h) (Or.inl ⟨by rfl, ?_⟩) (by assumption) ?_
        rotate_left 1
        · (intro w' hSw; (try dsimp only at hSw); go_simp; try with_reducible rfl)
        try simp only [Act.put, List.setIfInBounds_toArray, List.set_cons_zero, List.set_cons_succ, List.getElem_toArray, List.getElem_cons_succ, List.getElem_cons_zero]
        refine late_take (i := 1) (v := ?_) rfl (by kernel_rfl) (by kernel_rfl) (by kernel_rfl) (by kernel_rfl) (fun _ _ _ h => h) (Or.inl ⟨by rfl, ?_⟩) (by assumption) ?_
        rotate_left 1
        · (intro w' hSw; (try dsimp only at hSw); go_simp; try with_reducible rfl)
        try simp only [Act.put, List.setIfInBounds_toArray, List.set_cons_zero, List.set_cons_succ, List.getElem_toArray, List.getElem_cons_succ, List.getElem_cons_zero]
        refine late_take (i := 2) (v := ?_) rfl (by kernel_rfl) (by kernel_rfl) (by kernel_rfl) (by kernel_rfl) (fun _ _ _ h => h) (Or.inl ⟨by rfl, ?_⟩) (by assumption) ?_
        rotate_left 1
        · (intro w' hSw; (try dsimp only at hSw); go_simp; try with_reducible rfl)
        try simp only [Act.put, List.setIfInBounds_toArray, List.set_cons_zero, List.set_cons_succ, List.getElem_toArray, List.getElem_cons_succ, List.getElem_cons_zero]
        refine late_take (i := 3) (v := ?_) rfl (by kernel_rfl) (by kernel_rfl) (by kernel_rfl) (by kernel_rfl) (fun _ _ _ h => h) (Or.inl ⟨by rfl, ?_⟩) (by assumption) ?_
        rotate_left 1
        · (intro w' hSw; (try dsimp only at hSw); go_simp; try with_reducible rfl)
        try simp only [Act.put, List.setIfInBounds_toArray, List.set_cons_zero, List.set_cons_succ, List.getElem_toArray, List.getElem_cons_succ, List.getElem_cons_zero]
        refine late_take (i := 4) (v := ?_) rfl (by kernel_rfl) (by kernel_rfl) (by kernel_rfl) (by kernel_rfl) (fun _ _ _ h => h) (Or.inl ⟨by rfl, ?_⟩) (by assumption) ?_
        rotate_left 1
        · (intro w' hSw; (try dsimp only at hSw); go_simp; try with_reducible rfl)
        try simp only [Act.put, List.setIfInBounds_toArray, List.set_cons_zero, List.set_cons_succ, List.getElem_toArray, List.getElem_cons_succ, List.getElem_cons_zero]
        refine late_take (i := 5) (v := ?_) rfl (by kernel_rfl) (by kernel_rfl) (by kernel_rfl) (by kernel_rfl) (fun _ _ _ h => h) (Or.inl ⟨by rfl, ?_⟩) (by assumption) ?_
        rotate_left 1
        · (intro w' hSw; (try dsimp only at hSw); go_simp; try with_reducible rfl)
        try simp only [Act.put, List.setIfInBounds_toArray, List.set_cons_zero, List.set_cons_succ, List.getElem_toArray, List.getElem_cons_succ, List.getElem_cons_zero]
        refine late_take (i := 6) (v := ?_) rfl (by kernel_rfl) (by kernel_rfl) (by kernel_rfl) (by kernel_rfl) (fun _ _ _ h => h) (Or.inl ⟨by rfl, ?_⟩) (by assumption) ?_
        rotate_left 1
        · (intro w' hSw; (try dsimp only at hSw); go_simp; try with_reducible rfl)
        try simp only [Act.put, List.setIfInBounds_toArray, List.set_cons_zero, List.set_cons_succ, List.getElem_toArray, List.getElem_cons_succ, List.getElem_cons_zero]
        refine late_take (i := 7) (v := ?_) rfl (by kernel_rfl) (by kernel_rfl) (by kernel_rfl) (by kernel_rfl) (fun _ _ _ h => h) (Or.inl ⟨by rfl, ?_⟩) (by assumption) ?_
        rotate_left 1
        · (intro w' hSw; (try dsimp only at hSw); go_simp; try with_reducible rfl)
        try simp only [Act.put, List.setIfInBounds_toArray, List.set_cons_zero, List.set_cons_succ, List.getElem_toArray, List.getElem_cons_succ, List.getElem_cons_zero]
        refine late_take (i := 8) (v := ?_) rfl (by kernel_rfl) (by kernel_rfl) (by kernel_rfl) (by kernel_rfl) (fun _ _ _ h => h) (Or.inl ⟨by rfl, ?_⟩) (by assumption) ?_
        rotate_left 1
        · (intro w' hSw; (try dsimp only at hSw); go_simp; try with_reducible rfl)
        try simp only [Act.put, List.setIfInBounds_toArray, List.set_cons_zero, List.set_cons_succ, List.getElem_toArray, List.getElem_cons_succ, List.getElem_cons_zero]
        refine late_take (i := 10) (v := ?_) rfl (by kernel_rfl) (by kernel_rfl) (by kernel_rfl) (by kernel_rfl) (fun _ _ _ h => h) (Or.inl ⟨by rfl, ?_⟩) (by assumption) ?_
        rotate_left 1
        · (intro w' hSw; (try dsimp only at hSw); go_simp; try with_reducible rfl)
        try simp only [Act.put, List.setIfInBounds_toArray, List.set_cons_zero, List.set_cons_succ, List.getElem_toArray, List.getElem_cons_succ, List.getElem_cons_zero]
        refine late_two (i := 9) (j := 11) (by kernel_rfl) rfl rfl (fun K hK => ?_) (fun K hK => ?_)
        · go_simp
          have DA : Hid (DL B a0 len cap b w (v3.drew.alloc (.cells #[.int .i64 1, .int .i64 (-1), .int .i64 1152921504606846976] 2)) bl (.slice (some ⟨gT, 0, none⟩) T.length (dT + 1)) (.slice (some ⟨gO, 0, none⟩) O.length (dO + 1)) (.slice (some ⟨gP, 0, none⟩) P.length (dP + 1)) T O P) := D.out.next ((Below.refl _ _).drew.alloc (Nat.le_refl _) _)
          refine hK.out _ _ (⟨(HC.out _ DA.out).1.2.1, (HC.out _ DA.out).2.1.2.1⟩) (fun hS => ?_)
          try simp only [Act.put, List.setIfInBounds_toArray, List.set_cons_zero, List.set_cons_succ, List.getElem_toArray, List.getElem_cons_succ, List.getElem_cons_zero]
          refine late_one (i := 11) (by kernel_rfl) rfl (fun K hK => ?_)
          go_simp
          (refine (below_acc 3 DA.out.cur (Only.refl _ _) (by omega) (by omega)).mono ?_; rintro e vT ⟨x4, rfl, hx4, kT', oT⟩; have DZ : Hid (DL B a0 len cap b w vT bl (.slice (some ⟨gT, 0, none⟩) T.length (dT + 1)) (.slice (some ⟨gO, 0, none⟩) O.length (dO + 1)) (.slice (some ⟨gP, 0, none⟩) P.length (dP + 1)) T O P) := DA.out.draw oT kT'; obtain ⟨X, rfl⟩ := Int.eq_ofNat_of_zero_le hx4.1; have hX : X < 3 := (by omega); have hXi : (X : Int) < 3 := (by omega); obtain ⟨yy, hy⟩ := tab3_in 1 (-1) 1152921504606846976 X hX; have hcell : vT.cell? ⟨v3.heap.size, X, none⟩ = some (.int .i64 yy) := (table_cell (w := v3.drew) (D.out.next (Below.refl _ _).drew).cur.hi oT X).trans hy; have hS : vT.cell? ⟨bl, 1, none⟩ = some (.slice (some ⟨gO, 0, none⟩) O.length (dO + 1)) ∧ vT.cell? ⟨gO, k * 4 + 2, none⟩ = some (.int .i64 ll) := ⟨(HC.out _ DZ.out).1.2.1, (HC.out _ DZ.out).2.1.2.1⟩; have zF := (HC.out _ DZ.out).2.2.2.2.1; have zC := (HC.out _ DZ.out).2.1.2.1; simp only [])
          refine hK.out _ _ (by assumption) (fun _ => ?_)
          try simp only [Act.put, List.setIfInBounds_toArray, List.set_cons_zero, List.set_cons_succ, List.getElem_toArray, List.getElem_cons_succ, List.getElem_cons_zero]
          refine late_take (i := 12) (v := ?_) rfl (by kernel_rfl) (by kernel_rfl) (by kernel_rfl) (by kernel_rfl) (fun _ _ _ h => h) (Or.inl ⟨by rfl, ?_⟩) (by assumption) ?_
          rotate_left 1
          · (intro w' hSw; (try dsimp only at hSw); go_simp; try with_reducible rfl)
          try simp only [Act.put, List.setIfInBounds_toArray, List.set_cons_zero, List.set_cons_succ, List.getElem_toArray, List.getElem_cons_succ, List.getElem_cons_zero]
          refine late_one (i := 13) (by kernel_rfl) rfl (fun K hK => ?_)
          go_simp
          refine hK.out _ _ (by assumption) (fun _ => ?_)
          try simp only [Act.put, List.setIfInBounds_toArray, List.set_cons_zero, List.set_cons_succ, List.getElem_toArray, List.getElem_cons_succ, List.getElem_cons_zero]
          refine late_take (i := 14) (v := ?_) rfl (by kernel_rfl) (by kernel_rfl) (by kernel_rfl) (by kernel_rfl) (fun _ _ _ h => h) (Or.inl ⟨by rfl, ?_⟩) (by assumption) ?_
          rotate_left 1
          · (intro w' hSw; (try dsimp only at hSw); go_simp; try with_reducible rfl)
          try simp only [Act.put, List.setIfInBounds_toArray, List.set_cons_zero, List.set_cons_succ, List.getElem_toArray, List.getElem_cons_succ, List.getElem_cons_zero]
          refine late_one (i := 15) (by kernel_rfl) rfl (fun K hK => ?_)
          go_simp
          refine hK.out _ _ (by assumption) (fun _ => ?_)
          try simp only [Act.put, List.setIfInBounds_toArray, List.set_cons_zero, List.set_cons_succ, List.getElem_toArray, List.getElem_cons_succ, List.getElem_cons_zero]
          refine late_take (i := 16) (v := ?_) rfl (by kernel_rfl) (by kernel_rfl) (by kernel_rfl) (by kernel_rfl) (fun _ _ _ h => h) (Or.inl ⟨by rfl, ?_⟩) (by assumption) ?_
          rotate_left 1
          · (intro w' hSw; (try dsimp only at hSw); go_simp; try with_reducible rfl)
          try simp only [Act.put, List.setIfInBounds_toArray, List.set_cons_zero, List.set_cons_succ, List.getElem_toArray, List.getElem_cons_succ, List.getElem_cons_zero]
          refine late_last (by kernel_rfl) rfl (by kernel_rfl) (fun K hK => ?_)
          go_simp
          refine hK.out _ _ ?_
          try simp only [Act.put, List.setIfInBounds_toArray, List.set_cons_zero, List.set_cons_succ, List.getElem_toArray, List.getElem_cons_succ, List.getElem_cons_zero]
          repeat go_step
          go_meet
          exact z7_putO DZ.out HL.out _ _
        · go_simp
          (refine (below_acc 3 (D.out.next (Below.refl _ _).drew).cur (Only.refl _ _) (by omega) (by omega)).mono ?_; rintro e vT ⟨x4, rfl, hx4, kT', oT⟩; have D2 : Hid (DL B a0 len cap b w vT bl (.slice (some ⟨gT, 0, none⟩) T.length (dT + 1)) (.slice (some ⟨gO, 0, none⟩) O.length (dO + 1)) (.slice (some ⟨gP, 0, none⟩) P.length (dP + 1)) T O P) := (D.out.next (Below.refl _ _).drew).draw oT kT'; obtain ⟨X, rfl⟩ := Int.eq_ofNat_of_zero_le hx4.1; have hX : X < 3 := (by omega); have hXi : (X : Int) < 3 := (by omega); obtain ⟨yy, hy⟩ := tab3_in 1 (-1) 1152921504606846976 X hX; have hS : vT.cell? ⟨bl, 1, none⟩ = some (.slice (some ⟨gO, 0, none⟩) O.length (dO + 1)) ∧ vT.cell? ⟨gO, k * 4 + 2, none⟩ = some (.int .i64 ll) := ⟨(HC.out _ D2.out).1.2.1, (HC.out _ D2.out).2.1.2.1⟩; simp only [])
          refine hK.out _ _ (by assumption) (fun _ => ?_)
          try simp only [Act.put, List.setIfInBounds_toArray, List.set_cons_zero, List.set_cons_succ, List.getElem_toArray, List.getElem_cons_succ, List.getElem_cons_zero]
          refine late_one (i := 9) (by kernel_rfl) rfl (fun K hK => ?_)
          go_simp
          have DZ : Hid (DL B a0 len cap b w (vT.alloc (.cells #[.int .i64 1, .int .i64 (-1), .int .i64 1152921504606846976] 2)) bl (.slice (some ⟨gT, 0, none⟩) T.length (dT + 1)) (.slice (some ⟨gO, 0, none⟩) O.length (dO + 1)) (.slice (some ⟨gP, 0, none⟩) P.length (dP + 1)) T O P) := D2.out.next (new_below _ _)
          have hcell : (vT.alloc (.cells #[.int .i64 1, .int .i64 (-1), .int .i64 1152921504606846976] 2)).cell? ⟨vT.heap.size, X, none⟩ = some (.int .i64 yy) := (World.cell?_alloc_at _ _ _ _ rfl).trans hy
          have zF := (HC.out _ DZ.out).2.2.2.2.1
          have zC := (HC.out _ DZ.out).2.1.2.1
          refine hK.out _ _ (⟨(HC.out _ DZ.out).1.2.1, (HC.out _ DZ.out).2.1.2.1⟩) (fun hS => ?_)
          try simp only [Act.put, List.setIfInBounds_toArray, List.set_cons_zero, List.set_cons_succ, List.getElem_toArray, List.getElem_cons_succ, List.getElem_cons_zero]
          refine late_take (i := 12) (v := ?_) rfl (by kernel_rfl) (by kernel_rfl) (by kernel_rfl) (by kernel_rfl) (fun _ _ _ h => h) (Or.inl ⟨by rfl, ?_⟩) (by assumption) ?_
          rotate_left 1
          · (intro w' hSw; (try dsimp only at hSw); go_simp; try with_reducible rfl)
          try simp only [Act.put, List.setIfInBounds_toArray, List.set_cons_zero, List.set_cons_succ, List.getElem_toArray, List.getElem_cons_succ, List.getElem_cons_zero]
          refine late_one (i := 13) (by kernel_rfl) rfl (fun K hK => ?_)
          go_simp
          refine hK.out _ _ (by assumption) (fun _ => ?_)
          try simp only [Act.put, List.setIfInBounds_toArray, List.set_cons_zero, List.set_cons_succ, List.getElem_toArray, List.getElem_cons_succ, List.getElem_cons_zero]
          refine late_take (i := 14) (v := ?_) rfl (by kernel_rfl) (by kernel_rfl) (by kernel_rfl) (by kernel_rfl) (fun _ _ _ h => h) (Or.inl ⟨by rfl, ?_⟩) (by assumption) ?_
          rotate_left 1
          · (intro w' hSw; (try dsimp only at hSw); go_simp; try with_reducible rfl)
          try simp only [Act.put, List.setIfInBounds_toArray, List.set_cons_zero, List.set_cons_succ, List.getElem_toArray, List.getElem_cons_succ, List.getElem_cons_zero]
          refine late_one (i := 15) (by kernel_rfl) rfl (fun K hK => ?_)
          go_simp
          refine hK.out _ _ (by assumption) (fun _ => ?_)
          try simp only [Act.put, List.setIfInBounds_toArray, List.set_cons_zero, List.set_cons_succ, List.getElem_toArray, List.getElem_cons_succ, List.getElem_cons_zero]
          refine late_take (i := 16) (v := ?_) rfl (by kernel_rfl) (by kernel_rfl) (by kernel_rfl) (by kernel_rfl) (fun _ _ _ h => h) (Or.inl ⟨by rfl, ?_⟩) (by assumption) ?_
          rotate_left 1
          · (intro w' hSw; (try dsimp only at hSw); go_simp; try with_reducible rfl)
          try simp only [Act.put, List.setIfInBounds_toArray, List.set_cons_zero, List.set_cons_succ, List.getElem_toArray, List.getElem_cons_succ, List.getElem_cons_zero]
          refine late_last (by kernel_rfl) rfl (by kernel_rfl) (fun K hK => ?_)
          go_simp
          refine hK.out _ _ ?_
          try simp only [Act.put, List.setIfInBounds_toArray, List.set_cons_zero, List.set_cons_succ, List.getElem_toArray, List.getElem_cons_succ, List.getElem_cons_zero]
          repeat go_step
          go_meet
          exact z7_putO DZ.out HL.out _ _
      · go_upto_region 8 with (fail)
        refine region_late (S := fun w' => w'.cell? ⟨bl, 2, none⟩ = some (.slice (some ⟨gP, 0, none⟩) P.length (dP + 1)) ∧ w'.cell? ⟨gP, k * 4 + 3, none⟩ = some (.int .i64 tt)) 12 (by kernel_rfl) (by go_simp) (fun hS => ?_)
        refine late_take (i := 0) (v := ?_) rfl (by kernel_rfl) (by kernel_rfl) (by kernel_rfl) (by kernel_rfl) (fun _ _ _ h => h) (Or.inl ⟨by rfl, ?_⟩) (by assumption) ?_
        rotate_left 1
        · (intro w' hSw; (try dsimp only at hSw); go_simp; try with_reducible rfl)
        try simp only [Act.put, List.setIfInBounds_toArray, List.set_cons_zero, List.set_cons_succ, List.getElem_toArray, List.getElem_cons_succ, List.getElem_cons_zero]
        refine late_take (i := 1) (v := ?_) rfl (by kernel_rfl) (by kernel_rfl) (by kernel_rfl) (by kernel_rfl) (fun _ _ _ h => h) (Or.inl ⟨by rfl, ?_⟩) (by assumption) ?_
        rotate_left 1
        · (intro w' hSw; (try dsimp only at hSw); go_simp; try with_reducible rfl)
        try simp only [Act.put, List.setIfInBounds_toArray, List.set_cons_zero, List.set_cons_succ, List.getElem_toArray, List.getElem_cons_succ, List.getElem_cons_zero]
        refine late_take (i := 2) (v := ?_) rfl (by kernel_rfl) (by kernel_rfl) (by kernel_rfl) (by kernel_rfl) (fun _ _ _ h => h) (Or.inl ⟨by rfl, ?_⟩) (by assumption) ?_
        rotate_left 1
        · (intro w' hSw; (try dsimp only at hSw); go_simp; try with_reducible rfl)
        try simp only [Act.put, List.setIfInBounds_toArray, List.set_cons_zero, List.set_cons_succ, List.getElem_toArray, List.getElem_cons_succ, List.getElem_cons_zero]
        refine late_take (i := 3) (v := ?_) rfl (by kernel_rfl) (by kernel_rfl) (by kernel_rfl) (by kernel_rfl) (fun _ _ _ h => h) (Or.inl ⟨by rfl, ?_⟩) (by assumption) ?_
        rotate_left 1
        · (intro w' hSw; (try dsimp only at hSw); go_simp; try with_reducible rfl)
        try simp only [Act.put, List.setIfInBounds_toArray, List.set_cons_zero, List.set_cons_succ, List.getElem_toArray, List.getElem_cons_succ, List.getElem_cons_zero]
        refine late_take (i := 4) (v := ?_) rfl (by kernel_rfl) (by kernel_rfl) (by kernel_rfl) (by kernel_rfl) (fun _ _ _ h => h) (Or.inl ⟨by rfl, ?_⟩) (by assumption) ?_
        rotate_left 1
        · (intro w' hSw; (try dsimp only at hSw); go_simp; try with_reducible rfl)
        try simp only [Act.put, List.setIfInBounds_toArray, List.set_cons_zero, List.set_cons_succ, List.getElem_toArray, List.getElem_cons_succ, List.getElem_cons_zero]
        refine late_take (i := 5) (v := ?_) rfl (by kernel_rfl) (by kernel_rfl) (by kernel_rfl) (by kernel_rfl) (fun _ _ _ h => h) (Or.inl ⟨by rfl, ?_⟩) (by assumption) ?_
        rotate_left 1
        · (intro w' hSw; (try dsimp only at hSw); go_simp; try with_reducible rfl)
        try simp only [Act.put, List.setIfInBounds_toArray, List.set_cons_zero, List.set_cons_succ, List.getElem_toArray, List.getElem_cons_succ, List.getElem_cons_zero]
        refine late_take (i := 6) (v := ?_) rfl (by kernel_rfl) (by kernel_rfl) (by kernel_rfl) (by kernel_rfl) (fun _ _ _ h => h) (Or.inl ⟨by rfl, ?_⟩) (by assumption) ?_
        rotate_left 1
        · (intro w' hSw; (try dsimp only at hSw); go_simp; try with_reducible rfl)
        try simp only [Act.put, List.setIfInBounds_toArray, List.set_cons_zero, List.set_cons_succ, List.getElem_toArray, List.getElem_cons_succ, List.getElem_cons_zero]
        refine late_take (i := 7) (v := ?_) rfl (by kernel_rfl) (by kernel_rfl) (by kernel_rfl) (by kernel_rfl) (fun _ _ _ h => h) (Or.inl ⟨by rfl, ?_⟩) (by assumption) ?_
        rotate_left 1
        · (intro w' hSw; (try dsimp only at hSw); go_simp; try with_reducible rfl)
        try simp only [Act.put, List.setIfInBounds_toArray, List.set_cons_zero, List.set_cons_succ, List.getElem_toArray, List.getElem_cons_succ, List.getElem_cons_zero]
        refine late_take (i := 8) (v := ?_) rfl (by kernel_rfl) (by kernel_rfl) (by kernel_rfl) (by kernel_rfl) (fun _ _ _ h => h) (Or.inl ⟨by rfl, ?_⟩) (by assumption) ?_
        rotate_left 1
        · (intro w' hSw; (try dsimp only at hSw); go_simp; try with_reducible rfl)
        try simp only [Act.put, List.setIfInBounds_toArray, List.set_cons_zero, List.set_cons_succ, List.getElem_toArray, List.getElem_cons_succ, List.getElem_cons_zero]
        refine late_take (i := 9) (v := ?_) rfl (by kernel_rfl) (by kernel_rfl) (by kernel_rfl) (by kernel_rfl) (fun _ _ _ h => h) (Or.inl ⟨by rfl, ?_⟩) (by assumption) ?_
        rotate_left 1
        · (intro w' hSw; (try dsimp only at hSw); go_simp; try with_reducible rfl)
        try simp only [Act.put, List.setIfInBounds_toArray, List.set_cons_zero, List.set_cons_succ, List.getElem_toArray, List.getElem_cons_succ, List.getElem_cons_zero]
        refine late_one (i := 10) (by kernel_rfl) rfl (fun K hK => ?_)
        go_simp
        refine hK.out _ _ (by assumption) (fun _ => ?_)
        try simp only [Act.put, List.setIfInBounds_toArray, List.set_cons_zero, List.set_cons_succ, List.getElem_toArray, List.getElem_cons_succ, List.getElem_cons_zero]
        refine late_take (i := 11) (v := ?_) rfl (by kernel_rfl) (by kernel_rfl) (by kernel_rfl) (by kernel_rfl) (fun _ _ _ h => h) (Or.inl ⟨by rfl, ?_⟩) (by assumption) ?_
        rotate_left 1
        · (intro w' hSw; (try dsimp only at hSw); go_simp; try with_reducible rfl)
        try simp only [Act.put, List.setIfInBounds_toArray, List.set_cons_zero, List.set_cons_succ, List.getElem_toArray, List.getElem_cons_succ, List.getElem_cons_zero]
        refine late_last (by kernel_rfl) rfl (by kernel_rfl) (fun K hK => ?_)
        go_simp
        refine hK.out _ _ ?_
        try simp only [Act.put, List.setIfInBounds_toArray, List.set_cons_zero, List.set_cons_succ, List.getElem_toArray, List.getElem_cons_succ, List.getElem_cons_zero]
        repeat go_step
        go_meet
        exact z7_putP (D.out.next (Below.refl _ _).drew) HL.out _ _
      · go_wp2
        · go_meet
          exact z7_none D.out HL.out (by omega) _
        · go_meet
          exact z7_cut D.out HL.out
      · go_upto_region 12 with (fail)
        refine region_late (S := fun w' => w'.cell? ⟨bl, 0, none⟩ = some (.slice (some ⟨gT, 0, none⟩) T.length (dT + 1)) ∧ w'.cell? ⟨gT, k * 4 + 2, none⟩ = some (.int .i64 cc)) 12 (by kernel_rfl) (by go_simp) (fun hS => ?_)
        refine late_take (i := 0) (v := ?_) rfl (by kernel_rfl) (by kernel_rfl) (by kernel_rfl) (by kernel_rfl) (fun _ _ _ h => h) (Or.inl ⟨by rfl, ?_⟩) (by assumption) ?_
        rotate_left 1
        · (intro w' hSw; (try dsimp only at hSw); go_simp; try with_reducible rfl)
        try simp only [Act.put, List.setIfInBounds_toArray, List.set_cons_zero, List.set_cons_succ, List.getElem_toArray, List.getElem_cons_succ, List.getElem_cons_zero]
        refine late_take (i := 1) (v := ?_) rfl (by kernel_rfl) (by kernel_rfl) (by kernel_rfl) (by kernel_rfl) (fun _ _ _ h => h) (Or.inl ⟨by rfl, ?_⟩) (by assumption) ?_
        rotate_left 1
        · (intro w' hSw; (try dsimp only at hSw); go_simp; try with_reducible rfl)
        try simp only [Act.put, List.setIfInBounds_toArray, List.set_cons_zero, List.set_cons_succ, List.getElem_toArray, List.getElem_cons_succ, List.getElem_cons_zero]
        refine late_take (i := 2) (v := ?_) rfl (by kernel_rfl) (by kernel_rfl) (by kernel_rfl) (by kernel_rfl) (fun _ _ _ h => h) (Or.inl ⟨by rfl, ?_⟩) (by assumption) ?_
        rotate_left 1
        · (intro w' hSw; (try dsimp only at hSw); go_simp; try with_reducible rfl)
        try simp only [Act.put, List.setIfInBounds_toArray, List.set_cons_zero, List.set_cons_succ, List.getElem_toArray, List.getElem_cons_succ, List.getElem_cons_zero]
        refine late_take (i := 3) (v := ?_) rfl (by kernel_rfl) (by kernel_rfl) (by kernel_rfl) (by kernel_rfl) (fun _ _ _ h => h) (Or.inl ⟨by rfl, ?_⟩) (by assumption) ?_
        rotate_left 1
        · (intro w' hSw; (try dsimp only at hSw); go_simp; try with_reducible rfl)
        try simp only [Act.put, List.setIfInBounds_toArray, List.set_cons_zero, List.set_cons_succ, List.getElem_toArray, List.getElem_cons_succ, List.getElem_cons_zero]
        refine late_take (i := 4) (v := ?_) rfl (by kernel_rfl) (by kernel_rfl) (by kernel_rfl) (by kernel_rfl) (fun _ _ _ h => h) (Or.inl ⟨by rfl, ?_⟩) (by assumption) ?_
        rotate_left 1
        · (intro w' hSw; (try dsimp only at hSw); go_simp; try with_reducible rfl)
        try simp only [Act.put, List.setIfInBounds_toArray, List.set_cons_zero, List.set_cons_succ, List.getElem_toArray, List.getElem_cons_succ, List.getElem_cons_zero]
        refine late_take (i := 5) (v := ?_) rfl (by kernel_rfl) (by kernel_rfl) (by kernel_rfl) (by kernel_rfl) (fun _ _ _ h => h) (Or.inl ⟨by rfl, ?_⟩) (by assumption) ?_
        rotate_left 1
        · (intro w' hSw; (try dsimp only at hSw); go_simp; try with_reducible rfl)
        try simp only [Act.put, List.setIfInBounds_toArray, List.set_cons_zero, List.set_cons_succ, List.getElem_toArray, List.getElem_cons_succ, List.getElem_cons_zero]
        refine late_take (i := 6) (v := ?_) rfl (by kernel_rfl) (by kernel_rfl) (by kernel_rfl) (by kernel_rfl) (fun _ _ _ h => h) (Or.inl ⟨by rfl, ?_⟩) (by assumption) ?_
        rotate_left 1
        · (intro w' hSw; (try dsimp only at hSw); go_simp; try with_reducible rfl)
        try simp only [Act.put, List.setIfInBounds_toArray, List.set_cons_zero, List.set_cons_succ, List.getElem_toArray, List.getElem_cons_succ, List.getElem_cons_zero]
        refine late_take (i := 7) (v := ?_) rfl (by kernel_rfl) (by kernel_rfl) (by kernel_rfl) (by kernel_rfl) (fun _ _ _ h => h) (Or.inl ⟨by rfl, ?_⟩) (by assumption) ?_
        rotate_left 1
        · (intro w' hSw; (try dsimp only at hSw); go_simp; try with_reducible rfl)
        try simp only [Act.put, List.setIfInBounds_toArray, List.set_cons_zero, List.set_cons_succ, List.getElem_toArray, List.getElem_cons_succ, List.getElem_cons_zero]
        refine late_take (i := 8) (v := ?_) rfl (by kernel_rfl) (by kernel_rfl) (by kernel_rfl) (by kernel_rfl) (fun _ _ _ h => h) (Or.inl ⟨by rfl, ?_⟩) (by assumption) ?_
        rotate_left 1
        · (intro w' hSw; (try dsimp only at hSw); go_simp; try with_reducible rfl)
        try simp only [Act.put, List.setIfInBounds_toArray, List.set_cons_zero, List.set_cons_succ, List.getElem_toArray, List.getElem_cons_succ, List.getElem_cons_zero]
        refine late_take (i := 9) (v := ?_) rfl (by kernel_rfl) (by kernel_rfl) (by kernel_rfl) (by kernel_rfl) (fun _ _ _ h => h) (Or.inl ⟨by rfl, ?_⟩) (by assumption) ?_
        rotate_left 1
        · (intro w' hSw; (try dsimp only at hSw); go_simp; try with_reducible rfl)
        try simp only [Act.put, List.setIfInBounds_toArray, List.set_cons_zero, List.set_cons_succ, List.getElem_toArray, List.getElem_cons_succ, List.getElem_cons_zero]
        refine late_one (i := 10) (by kernel_rfl) rfl (fun K hK => ?_)
        go_simp
        refine hK.out _ _ (by assumption) (fun _ => ?_)
        try simp only [Act.put, List.setIfInBounds_toArray, List.set_cons_zero, List.set_cons_succ, List.getElem_toArray, List.getElem_cons_succ, List.getElem_cons_zero]
        refine late_take (i := 11) (v := ?_) rfl (by kernel_rfl) (by kernel_rfl) (by kernel_rfl) (by kernel_rfl) (fun _ _ _ h => h) (Or.inl ⟨by rfl, ?_⟩) (by assumption) ?_
        rotate_left 1
        · (intro w' hSw; (try dsimp only at hSw); go_simp; try with_reducible rfl)
        try simp only [Act.put, List.setIfInBounds_toArray, List.set_cons_zero, List.set_cons_succ, List.getElem_toArray, List.getElem_cons_succ, List.getElem_cons_zero]
        refine late_last (by kernel_rfl) rfl (by kernel_rfl) (fun K hK => ?_)
        go_simp
        refine hK.out _ _ ?_
        try simp only [Act.put, List.setIfInBounds_toArray, List.set_cons_zero, List.set_cons_succ, List.getElem_toArray, List.getElem_cons_succ, List.getElem_cons_zero]
        repeat go_step
        go_meet
        exact z7_putT (D.out.next (Below.refl _ _).drew) HL.out _ _
      · go_wp2
        go_meet
        exact z7_putO D.out HL.out _ _
  case rest =>
    clear D1
    obtain ⟨a1, c1, a2, c2, a3, c3, T, O, P, hco, hcs, hq, hl30⟩ := hcut
    have x0 := hcs.1
    have x1 := hcs.2.1
    have x2 := hcs.2.2
    have hs := hco.2.size
    have q0 := (hco.2.cell (p := ⟨w0.heap.size, 0, none⟩) (by simp only; omega) (by simp only; omega)).trans r0
    have q1 := (hco.2.cell (p := ⟨w0.heap.size, 1, none⟩) (by simp only; omega) (by simp only; omega)).trans r1
    have q2 := (hco.2.cell (p := ⟨w0.heap.size, 2, none⟩) (by simp only; omega) (by simp only; omega)).trans r2
    have qf := fun i => (hco.2.frozen (p := ⟨w0.heap.size, i, none⟩) (by simp only; omega) (by simp only; omega)).trans (rf i)
    have HX : Hid ((Cur B a0 len cap b (((wc.setCell ⟨w0.heap.size, 0, none⟩ (.slice a1 T.length c1)).setCell ⟨w0.heap.size, 1, none⟩ (.slice a2 O.length c2)).setCell ⟨w0.heap.size, 2, none⟩ (.slice a3 P.length c3)) ∧ Only b w0 (((wc.setCell ⟨w0.heap.size, 0, none⟩ (.slice a1 T.length c1)).setCell ⟨w0.heap.size, 1, none⟩ (.slice a2 O.length c2)).setCell ⟨w0.heap.size, 2, none⟩ (.slice a3 P.length c3))) ∧ (QR w0.heap.size (((wc.setCell ⟨w0.heap.size, 0, none⟩ (.slice a1 T.length c1)).setCell ⟨w0.heap.size, 1, none⟩ (.slice a2 O.length c2)).setCell ⟨w0.heap.size, 2, none⟩ (.slice a3 P.length c3)) a1 T ∧ QR w0.heap.size (((wc.setCell ⟨w0.heap.size, 0, none⟩ (.slice a1 T.length c1)).setCell ⟨w0.heap.size, 1, none⟩ (.slice a2 O.length c2)).setCell ⟨w0.heap.size, 2, none⟩ (.slice a3 P.length c3)) a2 O ∧ QR w0.heap.size (((wc.setCell ⟨w0.heap.size, 0, none⟩ (.slice a1 T.length c1)).setCell ⟨w0.heap.size, 1, none⟩ (.slice a2 O.length c2)).setCell ⟨w0.heap.size, 2, none⟩ (.slice a3 P.length c3)) a3 P)) := by
      have hB : Below w0.heap.size wc (((wc.setCell ⟨w0.heap.size, 0, none⟩ (.slice a1 T.length c1)).setCell ⟨w0.heap.size, 1, none⟩ (.slice a2 O.length c2)).setCell ⟨w0.heap.size, 2, none⟩ (.slice a3 P.length c3)) := set3_below (Nat.le_refl _) (by omega) _ _ _
      have hO : Only w0.heap.size wc (((wc.setCell ⟨w0.heap.size, 0, none⟩ (.slice a1 T.length c1)).setCell ⟨w0.heap.size, 1, none⟩ (.slice a2 O.length c2)).setCell ⟨w0.heap.size, 2, none⟩ (.slice a3 P.length c3)) := (((Only.refl w0.heap.size wc).setCell (p := ⟨w0.heap.size, 0, none⟩) rfl _).setCell (p := ⟨w0.heap.size, 1, none⟩) rfl _).setCell (p := ⟨w0.heap.size, 2, none⟩) rfl _
      exact ⟨⟨hco.1.under hB hlt, only_low (ow.trans hco.2) hB⟩, (hq.1.only hO (by omega)).lower (by omega), (hq.2.1.only hO (by omega)).lower (by omega), (hq.2.2.only hO (by omega)).lower (by omega)⟩
    clear hcs hq hco
    go_wp2
    refine bodyPost_ret (results_one rfl _ _ _ [.slice a1 T.length c1, .slice a2 O.length c2, .slice a3 P.length c3] rfl (set_three (u0 := .slice none 0 0) (u1 := .slice none 0 0) (u2 := .slice none 0 0) _ _ _ q0 q1 q2) Try.underlying27 rfl (by kernel_rfl)) rfl ?_
    exact ⟨a1, c1, a2, c2, a3, c3, T, O, P, rfl, HX.out.1, HX.out.2, hl30⟩
end Go.Proofs.Ytdgefdjgpneanad
