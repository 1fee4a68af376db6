/- Lemmas on the way, of several texts: Draw7b, Draw7c. -/
import Derived.Test.YtmophpbfaonfmacDraw7
import Derived.Deep.DeepCutAuto
import Derived.Deep.RegionHeld3
namespace Go.Proofs.Ytmophpbfaonfmac
open Go.ChangeShapes Go.WideShapes Go.ChangeAt Go.RowKit
set_option maxRecDepth 100000
set_option linter.unusedVariables false
set_option linter.unusedSimpArgs false

def L7Post (B : Nat) (a0 : Option Addr) (len cap b : Nat) (w : World) (e : Ending) (w' : World) : Prop := ∃ a1 c1 a2 c2 a3 c3 T O P, e = .returned (lendV a1 (List.length T) c1 a2 (List.length O) c2 a3 (List.length P) c3) ∧ Cur B a0 len cap b w' ∧ Only b w w' ∧ LV w' w.heap.size (.slice a1 T.length c1) (.slice a2 O.length c2) (.slice a3 P.length c3) T O P ∧ Ln T O P
/-- A Lend in the variable bl, whatever its numbers. -/
def D7 (B : Nat) (a0 : Option Addr) (len cap b : Nat) (w wd : World) (bl : Nat) (T O P : List Q4) : Prop := ∃ a1 c1 a2 c2 a3 c3, DL B a0 len cap b w wd bl (.slice a1 T.length c1) (.slice a2 O.length c2) (.slice a3 P.length c3) T O P
theorem lv_len {w : World} {lo : Nat} {a1 : Option Addr} {n1 c1 : Nat} {a2 : Option Addr} {n2 c2 : Nat} {a3 : Option Addr} {n3 c3 : Nat} {T O P : List Q4} (h : LV w lo (.slice a1 n1 c1) (.slice a2 n2 c2) (.slice a3 n3 c3) T O P) : n1 = T.length ∧ n2 = O.length ∧ n3 = P.length := ⟨h.t.quad.1, h.o.quad.1, h.p.quad.1⟩
theorem iv_row {w : World} {lo n c : Nat} {a : Option Addr} {xs : List Int} (h : IV w lo (.slice a n c) xs) (hp : 1 ≤ xs.length) : ∃ g, a = some ⟨g, 0, none⟩ ∧ n = xs.length ∧ lo ≤ g ∧ g < w.heap.size := by
  rcases h with ⟨g, cap, e, h1, h2, _⟩ | ⟨_, rfl⟩
  · injection e with e1 e2 e3
    exact ⟨g, e1, e2, h1, h2⟩
  · simp at hp
theorem iv_cell {w : World} {lo g n c : Nat} {xs : List Int} (h : IV w lo (.slice (some ⟨g, 0, none⟩) n c) xs) : ∀ j, j < xs.length → w.cell? ⟨g, j, none⟩ = some (.int .i64 (xs.getD j 0)) := by
  intro j hj
  rcases h with ⟨g', cap, e, _, _, f, _⟩ | ⟨e, rfl⟩
  · injection e with e1 e2 e3
    injection e1 with e1
    injection e1 with e1
    subst e1
    rw [f.got j hj hj]
    simp [List.getD, List.getElem?_eq_getElem hj]
  · simp at hj
theorem IV.only {w w' : World} {lo b : Nat} {v : Value} {xs : List Int} (h : IV w lo v xs) (o : Only b w w') (hb : b < lo) : IV w' lo v xs :=
  h.onlyO (o := some b) ⟨o.os, o.tape, o.output, o.size, fun k hk hn => o.block k hk (fun e => hn (by rw [e]))⟩ (fun g hg e => by have := (h.own hg).1; have := Option.some.inj e; omega)
theorem IV.set {w : World} {lo b : Nat} {v : Value} {xs : List Int} (h : IV w lo v xs) (hb : b < lo) (i : Nat) (z : Value) : IV (w.setCell ⟨b, i, none⟩ z) lo v xs :=
  h.only ((Only.refl b w).setCell rfl z) hb
theorem out7 {B : Nat} {a0 : Option Addr} {len cap b : Nat} {w0 w wr : World} {bl : Nat} {s1 s2 s3 : Value} {T O P : List Q4} (d : DL B a0 len cap b w wr bl s1 s2 s3 T O P) (ow : Only b w0 w) (zw : w.heap.size = w0.heap.size + 1) (hb : b < w0.heap.size) :
    Cur B a0 len cap b (((wr.setCell ⟨w0.heap.size, 0, none⟩ s1).setCell ⟨w0.heap.size, 1, none⟩ s2).setCell ⟨w0.heap.size, 2, none⟩ s3) ∧ Only b w0 (((wr.setCell ⟨w0.heap.size, 0, none⟩ s1).setCell ⟨w0.heap.size, 1, none⟩ s2).setCell ⟨w0.heap.size, 2, none⟩ s3) ∧ LV (((wr.setCell ⟨w0.heap.size, 0, none⟩ s1).setCell ⟨w0.heap.size, 1, none⟩ s2).setCell ⟨w0.heap.size, 2, none⟩ s3) w0.heap.size s1 s2 s3 T O P := by
  have hs := d.only.size
  have hB : Below w0.heap.size wr (((wr.setCell ⟨w0.heap.size, 0, none⟩ s1).setCell ⟨w0.heap.size, 1, none⟩ s2).setCell ⟨w0.heap.size, 2, none⟩ s3) := set3_below (Nat.le_refl _) (by omega) _ _ _
  have hl : w0.heap.size < w.heap.size := by omega
  exact ⟨d.cur.under hB hb, only_low (ow.trans d.only) hB, (((d.lv.set hl _ _).set hl _ _).set hl _ _).lower (by omega)⟩
/-- What Spend told, in a variable bx of its own. -/
structure X7 (bl : Nat) (wd : World) (bx : Nat) (s1 s2 s3 : Value) (T O P : List Q4) : Prop where
  lt : bl < bx
  hi : bx < wd.heap.size
  c0 : wd.cell? ⟨bx, 0, none⟩ = some s1
  c1 : wd.cell? ⟨bx, 1, none⟩ = some s2
  c2 : wd.cell? ⟨bx, 2, none⟩ = some s3
  lv : ∃ lo, bl < lo ∧ LV wd lo s1 s2 s3 T O P
  ln : 0 < T.length → Ln T O P
  l30 : T.length ≤ 30
theorem X7.put {bl bx lo : Nat} {v : World} {s1 s2 s3 u0 u1 u2 : Value} {T O P : List Q4} (hl : bl < bx) (hb : bx < lo) (hs : lo ≤ v.heap.size) (lv : LV v lo s1 s2 s3 T O P) (e0 : v.cell? ⟨bx, 0, none⟩ = some u0) (e1 : v.cell? ⟨bx, 1, none⟩ = some u1) (e2 : v.cell? ⟨bx, 2, none⟩ = some u2) (ln : 0 < T.length → Ln T O P) (l30 : T.length ≤ 30) :
    X7 bl (((v.setCell ⟨bx, 0, none⟩ s1).setCell ⟨bx, 1, none⟩ s2).setCell ⟨bx, 2, none⟩ s3) bx s1 s2 s3 T O P := by
  obtain ⟨x0, x1, x2⟩ := cells3 e0 e1 e2 s1 s2 s3
  exact ⟨hl, by simp; omega, x0, x1, x2, ⟨lo, by omega, ((lv.set hb _ _).set hb _ _).set hb _ _⟩, ln, l30⟩
theorem X7.new {bl lo : Nat} {v : World} {s1 s2 s3 : Value} {T O P : List Q4} (hl : bl < lo) (hb : bl < v.heap.size) (lv : LV v lo s1 s2 s3 T O P) (ln : 0 < T.length → Ln T O P) (l30 : T.length ≤ 30) :
    X7 bl (v.alloc (.cells #[s1, s2, s3] 64)) v.heap.size s1 s2 s3 T O P :=
  ⟨hb, by simp, by go_simp, by go_simp, by go_simp, ⟨lo, hl, lv.next (new_below _ _)⟩, ln, l30⟩
theorem DL.far {B : Nat} {a0 : Option Addr} {len cap b : Nat} {w v : World} {bl bx : Nat} {s1 s2 s3 : Value} {T O P : List Q4} (d : DL B a0 len cap b w v bl s1 s2 s3 T O P) (hx : w.heap.size ≤ bx) (hn : bx ≠ bl) (hr : ¬ inL s1 s2 s3 bx) (p q r : Value) :
    DL B a0 len cap b w (((v.setCell ⟨bx, 0, none⟩ p).setCell ⟨bx, 1, none⟩ q).setCell ⟨bx, 2, none⟩ r) bl s1 s2 s3 T O P := by
  have hB : Below w.heap.size v (((v.setCell ⟨bx, 0, none⟩ p).setCell ⟨bx, 1, none⟩ q).setCell ⟨bx, 2, none⟩ r) := set3_below hx d.only.size _ _ _
  have hO : Only bx v (((v.setCell ⟨bx, 0, none⟩ p).setCell ⟨bx, 1, none⟩ q).setCell ⟨bx, 2, none⟩ r) := (((Only.refl bx v).setCell rfl p).setCell rfl q).setCell rfl r
  refine ⟨d.cur.under hB d.lt, only_low d.only hB, d.lt, d.bl0, by simpa using d.bl1, (hO.cell (p := ⟨bl, 0, none⟩) d.bl1 (Ne.symm hn)).trans d.c0, (hO.cell (p := ⟨bl, 1, none⟩) d.bl1 (Ne.symm hn)).trans d.c1, (hO.cell (p := ⟨bl, 2, none⟩) d.bl1 (Ne.symm hn)).trans d.c2, fun i => (hO.frozen (p := ⟨bl, i, none⟩) d.bl1 (Ne.symm hn)).trans (d.fr i), d.lv.onlyP hO.onlyP (fun g hg e => hr (by subst e; exact .inl hg)) (fun g hg e => hr (by subst e; exact .inr (.inl hg))) (fun g hg e => hr (by subst e; exact .inr (.inr hg))), d.ap⟩
theorem IV.far {w : World} {lo g n c bx : Nat} {xs : List Int} (h : IV w lo (.slice (some ⟨g, 0, none⟩) n c) xs) (hn : bx ≠ g) (p q r : Value) : IV (((w.setCell ⟨bx, 0, none⟩ p).setCell ⟨bx, 1, none⟩ q).setCell ⟨bx, 2, none⟩ r) lo (.slice (some ⟨g, 0, none⟩) n c) xs := by
  have hO : Only bx w (((w.setCell ⟨bx, 0, none⟩ p).setCell ⟨bx, 1, none⟩ q).setCell ⟨bx, 2, none⟩ r) := (((Only.refl bx w).setCell rfl p).setCell rfl q).setCell rfl r
  refine h.onlyO (o := some bx) ⟨hO.os, hO.tape, hO.output, hO.size, fun k hk hk' => hO.block k hk (fun e => hk' (by rw [e]))⟩ (fun g' hg e => ?_)
  have e1 : g = g' := by injection hg
  have e2 := Option.some.inj e
  omega
set_option maxHeartbeats 8000000 in
theorem l7Draw_acc {B : Nat} {a0 : Option Addr} {len cap b : Nat} {w0 : World} (k : Cur B a0 len cap b w0) :
    Calls Try.prog 159 #[.pointer (some ⟨b, 0, none⟩)] w0 (L7Post B a0 len cap b w0) := by
  have hlt := k.hi
  obtain ⟨w, hw, kw, ow, zw, r0, r1, r2, rf⟩ : ∃ w, w0.alloc (.cells #[.slice none 0 0, .slice none 0 0, .slice none 0 0] 64) = w ∧ Cur B a0 len cap b w ∧ Only b w0 w ∧ w.heap.size = w0.heap.size + 1 ∧ w.cell? ⟨w0.heap.size, 0, none⟩ = some (.slice none 0 0) ∧ w.cell? ⟨w0.heap.size, 1, none⟩ = some (.slice none 0 0) ∧ w.cell? ⟨w0.heap.size, 2, none⟩ = some (.slice none 0 0) ∧ ∀ i, w.frozen? ⟨w0.heap.size, i, none⟩ = false :=
    ⟨_, rfl, k.alloc _, (Only.refl _ _).alloc _, by simp, by go_simp, by go_simp, by go_simp, fun i => by go_simp⟩
  go_enter Try.func159, Try.ntmps159
  go_upto_region 1 with (fail)
  clear hw
  have hbw : b < w.heap.size := kw.hi
  go_upto_if 18 with (first
    | (go_at_call 138; refine (l6Draw_acc kw).mono ?_; rintro e wA ⟨aA, nA, cA, TA, rfl, dA, hTA⟩; obtain ⟨gA, c0A, evA, _, _⟩ := own_some dA.own hTA.1; injection evA with evA1 evA2 evA3; subst evA1 evA2 evA3; have DA : Hid (TSt B a0 len cap b w wA (.slice (some ⟨gA, 0, none⟩) TA.length cA) TA) := dA; clear dA)
    | (go_at_call 68; refine (below_acc _ DA.out.cur (Only.refl _ _) (by omega) (by omega)).mono ?_; rintro e wB ⟨xB, rfl, hxB, kB, oB⟩; have DB : Hid (TSt B a0 len cap b w wB (.slice (some ⟨gA, 0, none⟩) TA.length cA) TA) := DA.out.draw oB kB)
    | (go_at_call 165; refine (specNewLend_any cA xB (own_quad DB.out.own)).mono ?_; rintro e wC ⟨a1, n1, c1, a2, n2, c2, a3, n3, c3, rfl, lvC, hbC⟩; obtain ⟨rfl, rfl, rfl⟩ := lv_len lvC))
  have zB := DB.out.only.size
  have D0 : Hid (DL B a0 len cap b w (wC.alloc (.cells #[.slice a1 (newT TA xB).length c1, .slice a2 (newO TA xB).length c2, .slice a3 (newP TA xB).length c3] 64)) wC.heap.size (.slice a1 (newT TA xB).length c1) (.slice a2 (newO TA xB).length c2) (.slice a3 (newP TA xB).length c3) (newT TA xB) (newO TA xB) (newP TA xB)) :=
    DL.new (DB.out.cur.mono hbC) (DB.out.only.trans (Only.of_below hbC)) hbw (lvC.lower zB)
  have HN : Hid (newB TA xB = true → treeCode (newT TA xB) = 0 ∧ Ln (newT TA xB) (newO TA xB) (newP TA xB)) := fun h => new_ln h
  clear lvC hbC zB DB DA oB kB hxB
  obtain ⟨T1, hT1⟩ : ∃ T1, newT TA xB = T1 := ⟨_, rfl⟩
  obtain ⟨O1, hO1⟩ : ∃ O1, newO TA xB = O1 := ⟨_, rfl⟩
  obtain ⟨P1, hP1⟩ : ∃ P1, newP TA xB = P1 := ⟨_, rfl⟩
  obtain ⟨f, hf⟩ : ∃ f, newB TA xB = f := ⟨_, rfl⟩
  obtain ⟨v, hv⟩ : ∃ v, wC.alloc (.cells #[.slice a1 (newT TA xB).length c1, .slice a2 (newO TA xB).length c2, .slice a3 (newP TA xB).length c3] 64) = v := ⟨_, rfl⟩
  obtain ⟨bl, hbl⟩ : ∃ bl, wC.heap.size = bl := ⟨_, rfl⟩
  rw [hv, hbl] at D0 ⊢
  rw [hT1, hO1, hP1] at D0 HN ⊢
  rw [hf] at HN ⊢
  clear hv hbl hT1 hO1 hP1 hf
  go_cut [4] from 9 to 24 (fun _ wd => ∃ T O P, treeCode T = 0 ∧ Ln T O P ∧ D7 B a0 len cap b w wd bl T O P)
  case first =>
    cases f
    · have nb := new_below v (.cells #[.int .i64 (-1), .int .i64 5000, .int .i64 5000, .int .i64 1500] 61)
      have hq : Quad _ (v.alloc (.cells #[.int .i64 (-1), .int .i64 5000, .int .i64 5000, .int .i64 1500] 61)) (some ⟨v.heap.size, 0, none⟩) [((-1 : Int), (5000 : Int), (5000 : Int), (1500 : Int))] := own_quad (own_fresh v 0 (by omega) (-1) 5000 5000 1500)
      have hbl1 := D0.out.bl1
      have c0 := D0.out.c0
      have c1' := D0.out.c1
      have c2' := D0.out.c2
      have fr := D0.out.fr
      go_wp2_with (first
        | (go_at_call 165; refine (specNewLend_any 1 0 hq).mono ?_; rintro e wE ⟨a4, n4, c4, a5, n5, c5, a6, n6, c6, rfl, lvE, hbE⟩; obtain ⟨rfl, rfl, rfl⟩ := lv_len lvE; have hbv := below_two nb hbE; have k0 := (below_cells hbv _ _ hbl1).trans c0; have k1 := (below_cells hbv _ _ hbl1).trans c1'; have k2 := (below_cells hbv _ _ hbl1).trans c2'; have kf := fun i => (below_frozens hbv bl i hbl1).trans (fr i)))
      go_meet
      have hn := new_ln new_one
      exact ⟨_, _, _, hn.1, hn.2, _, _, _, _, _, _, D0.out.over hbv (by simp; omega) lvE⟩
    · have HN' : Hid (treeCode T1 = 0 ∧ Ln T1 O1 P1) := HN.out rfl
      clear HN
      go_wp2
      go_meet
      exact ⟨_, _, _, HN'.out.1, HN'.out.2, _, _, _, _, _, _, D0.out⟩
  case rest =>
    clear D0 HN
    obtain ⟨T, O, P, hcode, hln, a1, c1, a2, c2, a3, c3, d0⟩ := hcut
    have D : Hid (DL B a0 len cap b w wc bl (.slice a1 T.length c1) (.slice a2 O.length c2) (.slice a3 P.length c3) T O P) := d0
    have HL : Hid (Ln T O P) := hln
    have hv1 := leaves_some hcode
    have hT30 : T.length ≤ 30 := hln.2.1
    have c0 := d0.c0
    clear hln d0
    go_upto_region 5 with (first
      | (go_at_call 38; refine (specLeaves_any c1 D.out.lv.t.quad.2 (by omega)).mono ?_; rintro e w1 ⟨aV, nV, cV, rfl, ivV, hb1⟩))
    obtain ⟨V, hV⟩ : ∃ V, leavesOf T = V := ⟨_, rfl⟩
    have hv30 := leavesOf_length T
    rw [hV] at hv1 hv30 ivV
    clear hV
    obtain ⟨gV, rfl, rfl, hgV0, hgV1⟩ := iv_row ivV hv1
    have D1 : Hid (D7 B a0 len cap b w w1 bl T O P) := ⟨_, _, _, _, _, _, D.out.next hb1⟩
    have I1 : Hid (IV w1 wc.heap.size (.slice (some ⟨gV, 0, none⟩) V.length cV) V) := ivV
    have hblc := D.out.bl1
    have hbc : b < wc.heap.size := D.out.cur.hi
    have hbl0 := D.out.bl0
    obtain ⟨lo, hlo⟩ : ∃ lo, wc.heap.size = lo := ⟨_, rfl⟩
    rw [hlo] at I1 hblc hbc hgV0
    have K1 : Hid (Cur B a0 len cap b w1) := D.out.cur.mono hb1
    have hVi : (V.length : Int) ≤ 30 := by omega
    have hVj : (1 : Int) ≤ (V.length : Int) := by omega
    clear D hb1 ivV hlo hcode c0 hT30
    go_wp2_with (first
      | (go_at_call 68; refine (below_acc _ K1.out (Only.refl _ _) (by omega) (by omega)).mono ?_; rintro e w2 ⟨x2, rfl, hx2, k2, o2⟩; have D2 : Hid (D7 B a0 len cap b w w2 bl T O P) := (by obtain ⟨_, _, _, _, _, _, d⟩ := D1.out; exact ⟨_, _, _, _, _, _, d.draw o2 k2⟩); have I2 : Hid (IV w2 lo (.slice (some ⟨gV, 0, none⟩) V.length cV) V) := I1.out.only o2 hbc))
    go_loopw [6, 7, 8] (fun s _ _ wr => ∃ (j : Nat) (T O P : List Q4), s = .int .i64 j ∧ j ≤ 8 ∧ Hid (Ln T O P) ∧ Hid (D7 B a0 len cap b w wr bl T O P) ∧ Hid (IV wr lo (.slice (some ⟨gV, 0, none⟩) V.length cV) V)) (fun s _ _ _ => (intOf s).toNat)
    case atStart => exact ⟨x2.toNat, T, O, P, by rw [Int.toNat_of_nonneg hx2.1], by omega, HL, D2, I2⟩
    case round =>
      clear D1 D2 I1 I2 K1 k2 o2 HL hx2
      obtain ⟨j, T, O, P, rfl, hj8, HL, DH, I⟩ := hrel
      obtain ⟨a1, c1, a2, c2, a3, c3, d⟩ := DH.out
      have hln := HL.out
      obtain ⟨gO, dO, eO, hgO0, hgO1, fO, _⟩ := qv_row d.lv.o (by have := hln.1; have := hln.2.2.1; omega)
      injection eO with eO1 eO2 eO3
      subst eO1 eO3
      have D : Hid (DL B a0 len cap b w wr bl (.slice a1 T.length c1) (.slice (some ⟨gO, 0, none⟩) O.length (dO + 1)) (.slice a3 P.length c3) T O P) := d
      have c0 := d.c0
      have c1' := d.c1
      have c2' := d.c2
      have hO0 : 0 < O.length := by have := hln.1; have := hln.2.2.1; omega
      have hO1 : (0 : Int) < (O.length : Int) := by omega
      obtain ⟨t, ht⟩ : ∃ t, O[0].2.2.2 = t := ⟨_, rfl⟩
      have HT : Hid (O[0].2.2.2 = t) := ht
      clear ht DH eO2 fO
      cases j with
      | zero =>
        have q0 := (d.only.cell (p := ⟨w0.heap.size, 0, none⟩) (by simp only; omega) (by simp only; omega)).trans r0
        have q1 := (d.only.cell (p := ⟨w0.heap.size, 1, none⟩) (by simp only; omega) (by simp only; omega)).trans r1
        have q2 := (d.only.cell (p := ⟨w0.heap.size, 2, none⟩) (by simp only; omega) (by simp only; omega)).trans r2
        have qf := fun i => (d.only.frozen (p := ⟨w0.heap.size, i, none⟩) (by simp only; omega) (by simp only; omega)).trans (rf i)
        have ho := out7 d ow zw hlt
        have HO : Hid _ := ho
        clear d ho
        go_wp2
        refine bodyPost_ret (results_one rfl _ _ _ [.slice a1 T.length c1, .slice (some ⟨gO, 0, none⟩) O.length (dO + 1), .slice a3 P.length c3] rfl (set_three (u0 := .slice none 0 0) (u1 := .slice none 0 0) (u2 := .slice none 0 0) _ _ _ q0 q1 q2) Try.underlying64 rfl (by kernel_rfl)) rfl ?_
        exact ⟨_, _, _, _, _, _, T, O, P, rfl, HO.out.1, HO.out.2.1, HO.out.2.2, HL.out⟩
      | succ j =>
        have hj0 : (0 : Int) < (j : Int) + 1 := by omega
        have hj7 : (j : Int) ≤ 7 := by omega
        have HSG : Hid (∀ W, DL B a0 len cap b w W bl (.slice a1 T.length c1) (.slice (some ⟨gO, 0, none⟩) O.length (dO + 1)) (.slice a3 P.length c3) T O P → IV W lo (.slice (some ⟨gV, 0, none⟩) V.length cV) V →
            W.cell? ⟨bl, 0, none⟩ = some (.slice a1 T.length c1) ∧ W.cell? ⟨bl, 1, none⟩ = some (.slice (some ⟨gO, 0, none⟩) O.length (dO + 1)) ∧ W.cell? ⟨bl, 2, none⟩ = some (.slice a3 P.length c3) ∧ W.cell? ⟨gO, 3, none⟩ = some (.int .i64 t) ∧ ∀ j, j < V.length → W.cell? ⟨gV, j, none⟩ = some (.int .i64 (V.getD j 0))) := fun W d i => by
          obtain ⟨gO', _, eO, _, _, fO, _⟩ := qv_row d.lv.o hO0
          injection eO with eO1 _ _
          injection eO1 with eO1
          injection eO1 with eO1
          subst eO1
          have h3 := (fO.got 0 hO0 hO0).2.2.2
          rw [HT.out] at h3
          exact ⟨d.c0, d.c1, d.c2, h3, iv_cell i⟩
        have H0 : Hid (∀ W, Below wr.heap.size wr W → W.cell? ⟨bl, 0, none⟩ = some (.slice a1 T.length c1) ∧ W.cell? ⟨bl, 1, none⟩ = some (.slice (some ⟨gO, 0, none⟩) O.length (dO + 1)) ∧ W.cell? ⟨bl, 2, none⟩ = some (.slice a3 P.length c3) ∧ W.cell? ⟨gO, 3, none⟩ = some (.int .i64 t) ∧ ∀ j, j < V.length → W.cell? ⟨gV, j, none⟩ = some (.int .i64 (V.getD j 0))) := fun W h => HSG.out W (D.out.next h) (I.out.next h)
        clear d hln
        go_upto_region 8 with (fail)
        -- ROUND
        have D0 : Hid (DL B a0 len cap b w wr bl (.slice a1 T.length c1) (.slice (some ⟨gO, 0, none⟩) O.length (dO + 1)) (.slice a3 P.length c3) T O P) := D
        have I0 : Hid (IV wr lo (.slice (some ⟨gV, 0, none⟩) V.length cV) V) := I
        have hbr : b < wr.heap.size := D.out.cur.hi
        have hgVr : gV < wr.heap.size := (I.out.own (g := gV) rfl).2
        have hblr : bl < wr.heap.size := D.out.bl1
        have HRW : Hid (∀ bx, wr.heap.size ≤ bx → ¬ inL (.slice a1 T.length c1) (.slice (some ⟨gO, 0, none⟩) O.length (dO + 1)) (.slice a3 P.length c3) bx) := fun bx h e => (by have := (D.out.lv.lo e).2; omega)
        have HST : Hid (∀ (W : World) (bx : Nat) (p q r : Value), wr.heap.size ≤ bx → (W.cell? ⟨bl, 0, none⟩ = some (.slice a1 T.length c1) ∧ W.cell? ⟨bl, 1, none⟩ = some (.slice (some ⟨gO, 0, none⟩) O.length (dO + 1)) ∧ W.cell? ⟨bl, 2, none⟩ = some (.slice a3 P.length c3) ∧ W.cell? ⟨gO, 3, none⟩ = some (.int .i64 t) ∧ ∀ j, j < V.length → W.cell? ⟨gV, j, none⟩ = some (.int .i64 (V.getD j 0))) → ((((W.setCell ⟨bx, 0, none⟩ p).setCell ⟨bx, 1, none⟩ q).setCell ⟨bx, 2, none⟩ r).cell? ⟨bl, 0, none⟩ = some (.slice a1 T.length c1) ∧ (((W.setCell ⟨bx, 0, none⟩ p).setCell ⟨bx, 1, none⟩ q).setCell ⟨bx, 2, none⟩ r).cell? ⟨bl, 1, none⟩ = some (.slice (some ⟨gO, 0, none⟩) O.length (dO + 1)) ∧ (((W.setCell ⟨bx, 0, none⟩ p).setCell ⟨bx, 1, none⟩ q).setCell ⟨bx, 2, none⟩ r).cell? ⟨bl, 2, none⟩ = some (.slice a3 P.length c3) ∧ (((W.setCell ⟨bx, 0, none⟩ p).setCell ⟨bx, 1, none⟩ q).setCell ⟨bx, 2, none⟩ r).cell? ⟨gO, 3, none⟩ = some (.int .i64 t) ∧ ∀ j, j < V.length → (((W.setCell ⟨bx, 0, none⟩ p).setCell ⟨bx, 1, none⟩ q).setCell ⟨bx, 2, none⟩ r).cell? ⟨gV, j, none⟩ = some (.int .i64 (V.getD j 0)))) := fun W bx p q r hbx h =>
          ⟨(set_far (show bx ≠ bl by omega)).trans ((set_far (show bx ≠ bl by omega)).trans ((set_far (show bx ≠ bl by omega)).trans h.1)), (set_far (show bx ≠ bl by omega)).trans ((set_far (show bx ≠ bl by omega)).trans ((set_far (show bx ≠ bl by omega)).trans h.2.1)), (set_far (show bx ≠ bl by omega)).trans ((set_far (show bx ≠ bl by omega)).trans ((set_far (show bx ≠ bl by omega)).trans h.2.2.1)), (set_far (show bx ≠ gO by omega)).trans ((set_far (show bx ≠ gO by omega)).trans ((set_far (show bx ≠ gO by omega)).trans h.2.2.2.1)), fun j hj => (set_far (show bx ≠ gV by omega)).trans ((set_far (show bx ≠ gV by omega)).trans ((set_far (show bx ≠ gV by omega)).trans (h.2.2.2.2 j hj)))⟩
        go_cut [7, 8] from 34 to 59 (fun v7 _ wd => ∃ bx a4 c4 a5 c5 a6 c6 T' O' P', v7 = .pointer (some ⟨bx, 0, none⟩) ∧ X7 bl wd bx (.slice a4 (List.length T') c4) (.slice a5 (List.length O') c5) (.slice a6 (List.length P') c6) T' O' P' ∧ DL B a0 len cap b w wd bl (.slice a1 T.length c1) (.slice (some ⟨gO, 0, none⟩) O.length (dO + 1)) (.slice a3 P.length c3) T O P ∧ IV wd lo (.slice (some ⟨gV, 0, none⟩) V.length cV) V)
        case first =>
          go_region_held3 (fun w' => w'.cell? ⟨bl, 0, none⟩ = some (.slice a1 T.length c1) ∧ w'.cell? ⟨bl, 1, none⟩ = some (.slice (some ⟨gO, 0, none⟩) O.length (dO + 1)) ∧ w'.cell? ⟨bl, 2, none⟩ = some (.slice a3 P.length c3) ∧ w'.cell? ⟨gO, 3, none⟩ = some (.int .i64 t) ∧ ∀ j, j < V.length → w'.cell? ⟨gV, j, none⟩ = some (.int .i64 (V.getD j 0))) (first | (refine H5.out _ ?_; go_grown; done) | (refine H4.out _ ?_; go_grown; done) | (refine H3.out _ ?_; go_grown; done) | (refine H2.out _ ?_; go_grown; done) | (refine H1.out _ ?_; go_grown; done) | (refine H0.out _ ?_; go_grown; done) | (refine HST.out _ _ _ _ _ ?_ (H5.out _ (Below.refl _ _)); omega))
            (first
              | (go_at_call 45; refine (specSpend_any c1 (dO + 1) c3 _ _ _ (D4.out.next (by go_grown)).lv.t.quad.2 (D4.out.next (by go_grown)).lv.o.quad.2 (D4.out.next (by go_grown)).lv.p.quad.2).mono ?_; rintro e v5 ⟨a4, n4, c4, a5, n5, c5, a6, n6, c6, rfl, lv5, hb5⟩; obtain ⟨rfl, rfl, rfl⟩ := lv_len lv5; have D5 : Hid (DL B a0 len cap b w v5 bl (.slice a1 T.length c1) (.slice (some ⟨gO, 0, none⟩) O.length (dO + 1)) (.slice a3 P.length c3) T O P) := (D4.out.next (by go_grown)).next hb5; have I5 : Hid (IV v5 lo (.slice (some ⟨gV, 0, none⟩) V.length cV) V) := (I4.out.next (by go_grown)).next hb5; have H5 : Hid (∀ W, Below v5.heap.size v5 W → W.cell? ⟨bl, 0, none⟩ = some (.slice a1 T.length c1) ∧ W.cell? ⟨bl, 1, none⟩ = some (.slice (some ⟨gO, 0, none⟩) O.length (dO + 1)) ∧ W.cell? ⟨bl, 2, none⟩ = some (.slice a3 P.length c3) ∧ W.cell? ⟨gO, 3, none⟩ = some (.int .i64 t) ∧ ∀ j, j < V.length → W.cell? ⟨gV, j, none⟩ = some (.int .i64 (V.getD j 0))) := fun W h => HSG.out W (D5.out.next h) (I5.out.next h); have m5 := below_cells hb5; have f5 := below_frozens hb5; have z5 := hb5.size; (try simp at z5); have y5 : wr.heap.size ≤ v5.heap.size := (by omega); (try (have t5_0 : wr.heap.size < v5.heap.size := (by omega))); (try (have t5_1 : v1.heap.size < v5.heap.size := (by omega))); (try (have t5_2 : v2.heap.size < v5.heap.size := (by omega))); (try (have t5_3 : v3.heap.size < v5.heap.size := (by omega))); (try (have t5_4 : v4.heap.size < v5.heap.size := (by omega))))
              | (go_at_call 68; have gq := D3; refine (below_acc 1500 (D3.out.next (by go_grown)).cur (Only.refl _ _) (by omega) (by omega)).mono ?_; rintro e v4 ⟨x4, rfl, hx4, k4, o4⟩; have D4 : Hid (DL B a0 len cap b w v4 bl (.slice a1 T.length c1) (.slice (some ⟨gO, 0, none⟩) O.length (dO + 1)) (.slice a3 P.length c3) T O P) := (D3.out.next (by go_grown)).draw o4 k4; have I4 : Hid (IV v4 lo (.slice (some ⟨gV, 0, none⟩) V.length cV) V) := (I3.out.next (by go_grown)).only o4 hbc; have H4 : Hid (∀ W, Below v4.heap.size v4 W → W.cell? ⟨bl, 0, none⟩ = some (.slice a1 T.length c1) ∧ W.cell? ⟨bl, 1, none⟩ = some (.slice (some ⟨gO, 0, none⟩) O.length (dO + 1)) ∧ W.cell? ⟨bl, 2, none⟩ = some (.slice a3 P.length c3) ∧ W.cell? ⟨gO, 3, none⟩ = some (.int .i64 t) ∧ ∀ j, j < V.length → W.cell? ⟨gV, j, none⟩ = some (.int .i64 (V.getD j 0))) := fun W h => HSG.out W (D4.out.next h) (I4.out.next h); have z4 := o4.size; (try simp at z4); have m4 := fun k o (h0 : wr.heap.size ≤ k) (h1 : k < _) => o4.cell (p := ⟨k, o, none⟩) h1 (by simp only; omega); have f4 := fun k o (h0 : wr.heap.size ≤ k) (h1 : k < _) => o4.frozen (p := ⟨k, o, none⟩) h1 (by simp only; omega); have y4 : wr.heap.size ≤ v4.heap.size := (by omega); (try (have t4_0 : wr.heap.size < v4.heap.size := (by omega))); (try (have t4_1 : v1.heap.size < v4.heap.size := (by omega))); (try (have t4_2 : v2.heap.size < v4.heap.size := (by omega))); (try (have t4_3 : v3.heap.size < v4.heap.size := (by omega))))
              | (go_at_call 68; have gq := D2; refine (below_acc 5000000 (D2.out.next (by go_grown)).cur (Only.refl _ _) (by omega) (by omega)).mono ?_; rintro e v3 ⟨x3, rfl, hx3, k3, o3⟩; have D3 : Hid (DL B a0 len cap b w v3 bl (.slice a1 T.length c1) (.slice (some ⟨gO, 0, none⟩) O.length (dO + 1)) (.slice a3 P.length c3) T O P) := (D2.out.next (by go_grown)).draw o3 k3; have I3 : Hid (IV v3 lo (.slice (some ⟨gV, 0, none⟩) V.length cV) V) := (I2.out.next (by go_grown)).only o3 hbc; have H3 : Hid (∀ W, Below v3.heap.size v3 W → W.cell? ⟨bl, 0, none⟩ = some (.slice a1 T.length c1) ∧ W.cell? ⟨bl, 1, none⟩ = some (.slice (some ⟨gO, 0, none⟩) O.length (dO + 1)) ∧ W.cell? ⟨bl, 2, none⟩ = some (.slice a3 P.length c3) ∧ W.cell? ⟨gO, 3, none⟩ = some (.int .i64 t) ∧ ∀ j, j < V.length → W.cell? ⟨gV, j, none⟩ = some (.int .i64 (V.getD j 0))) := fun W h => HSG.out W (D3.out.next h) (I3.out.next h); have z3 := o3.size; (try simp at z3); have m3 := fun k o (h0 : wr.heap.size ≤ k) (h1 : k < _) => o3.cell (p := ⟨k, o, none⟩) h1 (by simp only; omega); have f3 := fun k o (h0 : wr.heap.size ≤ k) (h1 : k < _) => o3.frozen (p := ⟨k, o, none⟩) h1 (by simp only; omega); have y3 : wr.heap.size ≤ v3.heap.size := (by omega); (try (have t3_0 : wr.heap.size < v3.heap.size := (by omega))); (try (have t3_1 : v1.heap.size < v3.heap.size := (by omega))); (try (have t3_2 : v2.heap.size < v3.heap.size := (by omega))))
              | (go_at_call 68; have gq := D1; refine (below_acc 2 (D1.out.next (by go_grown)).cur (Only.refl _ _) (by omega) (by omega)).mono ?_; rintro e v2 ⟨x2, rfl, hx2, k2, o2⟩; have D2 : Hid (DL B a0 len cap b w v2 bl (.slice a1 T.length c1) (.slice (some ⟨gO, 0, none⟩) O.length (dO + 1)) (.slice a3 P.length c3) T O P) := (D1.out.next (by go_grown)).draw o2 k2; have I2 : Hid (IV v2 lo (.slice (some ⟨gV, 0, none⟩) V.length cV) V) := (I1.out.next (by go_grown)).only o2 hbc; have H2 : Hid (∀ W, Below v2.heap.size v2 W → W.cell? ⟨bl, 0, none⟩ = some (.slice a1 T.length c1) ∧ W.cell? ⟨bl, 1, none⟩ = some (.slice (some ⟨gO, 0, none⟩) O.length (dO + 1)) ∧ W.cell? ⟨bl, 2, none⟩ = some (.slice a3 P.length c3) ∧ W.cell? ⟨gO, 3, none⟩ = some (.int .i64 t) ∧ ∀ j, j < V.length → W.cell? ⟨gV, j, none⟩ = some (.int .i64 (V.getD j 0))) := fun W h => HSG.out W (D2.out.next h) (I2.out.next h); have z2 := o2.size; (try simp at z2); have m2 := fun k o (h0 : wr.heap.size ≤ k) (h1 : k < _) => o2.cell (p := ⟨k, o, none⟩) h1 (by simp only; omega); have f2 := fun k o (h0 : wr.heap.size ≤ k) (h1 : k < _) => o2.frozen (p := ⟨k, o, none⟩) h1 (by simp only; omega); have y2 : wr.heap.size ≤ v2.heap.size := (by omega); (try (have t2_0 : wr.heap.size < v2.heap.size := (by omega))); (try (have t2_1 : v1.heap.size < v2.heap.size := (by omega))))
              | (go_at_call 68; refine (below_acc _ (D0.out.next (by go_grown)).cur (Only.refl _ _) (by omega) (by omega)).mono ?_; rintro e v1 ⟨x1, rfl, hx1, k1, o1⟩; have D1 : Hid (DL B a0 len cap b w v1 bl (.slice a1 T.length c1) (.slice (some ⟨gO, 0, none⟩) O.length (dO + 1)) (.slice a3 P.length c3) T O P) := (D0.out.next (by go_grown)).draw o1 k1; have I1 : Hid (IV v1 lo (.slice (some ⟨gV, 0, none⟩) V.length cV) V) := (I0.out.next (by go_grown)).only o1 hbc; have H1 : Hid (∀ W, Below v1.heap.size v1 W → W.cell? ⟨bl, 0, none⟩ = some (.slice a1 T.length c1) ∧ W.cell? ⟨bl, 1, none⟩ = some (.slice (some ⟨gO, 0, none⟩) O.length (dO + 1)) ∧ W.cell? ⟨bl, 2, none⟩ = some (.slice a3 P.length c3) ∧ W.cell? ⟨gO, 3, none⟩ = some (.int .i64 t) ∧ ∀ j, j < V.length → W.cell? ⟨gV, j, none⟩ = some (.int .i64 (V.getD j 0))) := fun W h => HSG.out W (D1.out.next h) (I1.out.next h); have z1 := o1.size; (try simp at z1); have m1 := fun k o (h0 : wr.heap.size ≤ k) (h1 : k < _) => o1.cell (p := ⟨k, o, none⟩) h1 (by simp only; omega); have f1 := fun k o (h0 : wr.heap.size ≤ k) (h1 : k < _) => o1.frozen (p := ⟨k, o, none⟩) h1 (by simp only; omega); have y1 : wr.heap.size ≤ v1.heap.size := (by omega); (try (have t1_0 : wr.heap.size < v1.heap.size := (by omega))); obtain ⟨X, rfl⟩ := Int.eq_ofNat_of_zero_le hx1.1; have hX : X < V.length := (by omega); have hXi : (X : Int) < (V.length : Int) := (by omega)))
          all_goals (repeat go_step)
          all_goals go_meet
          all_goals first
            | exact ⟨_, a4, c4, a5, c5, a6, c6, _, _, _, rfl, X7.new (by (try simp); omega) (by omega) lv5 (fun h => spend_ln _ _ _ _ _ _ h) (spend_lengths _ _ _ _ _ _).1, D5.out.next (new_below _ _), I5.out.next (new_below _ _)⟩
            | skip
          · have e0 : v5.cell? ⟨v4.heap.size, 0, none⟩ = some (.slice none 0 0) := ((m5 _ 0 (by simp)).trans (by go_simp))
            have e1 : v5.cell? ⟨v4.heap.size, 1, none⟩ = some (.slice none 0 0) := ((m5 _ 1 (by simp)).trans (by go_simp))
            have e2 : v5.cell? ⟨v4.heap.size, 2, none⟩ = some (.slice none 0 0) := ((m5 _ 2 (by simp)).trans (by go_simp))
            have hwr := D.out.only.size
            exact ⟨v4.heap.size, a4, c4, a5, c5, a6, c6, _, _, _, rfl, X7.put (by omega) (by simp) hb5.size lv5 e0 e1 e2 (fun h => spend_ln _ _ _ _ _ _ h) (spend_lengths _ _ _ _ _ _).1, D5.out.far (by omega) (by omega) (HRW.out _ y4) _ _ _, I5.out.far (by omega) _ _ _⟩
          · have e0 : v5.cell? ⟨v3.heap.size, 0, none⟩ = some (.slice none 0 0) := ((m5 _ 0 t4_3).trans ((m4 _ 0 y3 (by simp)).trans (by go_simp)))
            have e1 : v5.cell? ⟨v3.heap.size, 1, none⟩ = some (.slice none 0 0) := ((m5 _ 1 t4_3).trans ((m4 _ 1 y3 (by simp)).trans (by go_simp)))
            have e2 : v5.cell? ⟨v3.heap.size, 2, none⟩ = some (.slice none 0 0) := ((m5 _ 2 t4_3).trans ((m4 _ 2 y3 (by simp)).trans (by go_simp)))
            have hwr := D.out.only.size
            exact ⟨v3.heap.size, a4, c4, a5, c5, a6, c6, _, _, _, rfl, X7.put (by omega) t4_3 hb5.size lv5 e0 e1 e2 (fun h => spend_ln _ _ _ _ _ _ h) (spend_lengths _ _ _ _ _ _).1, D5.out.far (by omega) (by omega) (HRW.out _ y3) _ _ _, I5.out.far (by omega) _ _ _⟩
          · have e0 : v5.cell? ⟨v2.heap.size, 0, none⟩ = some (.slice none 0 0) := ((m5 _ 0 t4_2).trans ((m4 _ 0 y2 t3_2).trans ((m3 _ 0 y2 (by simp)).trans (by go_simp))))
            have e1 : v5.cell? ⟨v2.heap.size, 1, none⟩ = some (.slice none 0 0) := ((m5 _ 1 t4_2).trans ((m4 _ 1 y2 t3_2).trans ((m3 _ 1 y2 (by simp)).trans (by go_simp))))
            have e2 : v5.cell? ⟨v2.heap.size, 2, none⟩ = some (.slice none 0 0) := ((m5 _ 2 t4_2).trans ((m4 _ 2 y2 t3_2).trans ((m3 _ 2 y2 (by simp)).trans (by go_simp))))
            have hwr := D.out.only.size
            exact ⟨v2.heap.size, a4, c4, a5, c5, a6, c6, _, _, _, rfl, X7.put (by omega) t4_2 hb5.size lv5 e0 e1 e2 (fun h => spend_ln _ _ _ _ _ _ h) (spend_lengths _ _ _ _ _ _).1, D5.out.far (by omega) (by omega) (HRW.out _ y2) _ _ _, I5.out.far (by omega) _ _ _⟩
          · have e0 : v5.cell? ⟨v1.heap.size, 0, none⟩ = some (.slice none 0 0) := ((m5 _ 0 t4_1).trans ((m4 _ 0 y1 t3_1).trans ((m3 _ 0 y1 t2_1).trans ((m2 _ 0 y1 (by simp)).trans (by go_simp)))))
            have e1 : v5.cell? ⟨v1.heap.size, 1, none⟩ = some (.slice none 0 0) := ((m5 _ 1 t4_1).trans ((m4 _ 1 y1 t3_1).trans ((m3 _ 1 y1 t2_1).trans ((m2 _ 1 y1 (by simp)).trans (by go_simp)))))
            have e2 : v5.cell? ⟨v1.heap.size, 2, none⟩ = some (.slice none 0 0) := ((m5 _ 2 t4_1).trans ((m4 _ 2 y1 t3_1).trans ((m3 _ 2 y1 t2_1).trans ((m2 _ 2 y1 (by simp)).trans (by go_simp)))))
            have hwr := D.out.only.size
            exact ⟨v1.heap.size, a4, c4, a5, c5, a6, c6, _, _, _, rfl, X7.put (by omega) t4_1 hb5.size lv5 e0 e1 e2 (fun h => spend_ln _ _ _ _ _ _ h) (spend_lengths _ _ _ _ _ _).1, D5.out.far (by omega) (by omega) (HRW.out _ y1) _ _ _, I5.out.far (by omega) _ _ _⟩
          · have e0 : v5.cell? ⟨wr.heap.size, 0, none⟩ = some (.slice none 0 0) := ((m5 _ 0 t4_0).trans ((m4 _ 0 (Nat.le_refl _) t3_0).trans ((m3 _ 0 (Nat.le_refl _) t2_0).trans ((m2 _ 0 (Nat.le_refl _) t1_0).trans ((m1 _ 0 (Nat.le_refl _) (by simp)).trans (by go_simp))))))
            have e1 : v5.cell? ⟨wr.heap.size, 1, none⟩ = some (.slice none 0 0) := ((m5 _ 1 t4_0).trans ((m4 _ 1 (Nat.le_refl _) t3_0).trans ((m3 _ 1 (Nat.le_refl _) t2_0).trans ((m2 _ 1 (Nat.le_refl _) t1_0).trans ((m1 _ 1 (Nat.le_refl _) (by simp)).trans (by go_simp))))))
            have e2 : v5.cell? ⟨wr.heap.size, 2, none⟩ = some (.slice none 0 0) := ((m5 _ 2 t4_0).trans ((m4 _ 2 (Nat.le_refl _) t3_0).trans ((m3 _ 2 (Nat.le_refl _) t2_0).trans ((m2 _ 2 (Nat.le_refl _) t1_0).trans ((m1 _ 2 (Nat.le_refl _) (by simp)).trans (by go_simp))))))
            have hwr := D.out.only.size
            exact ⟨wr.heap.size, a4, c4, a5, c5, a6, c6, _, _, _, rfl, X7.put (by omega) t4_0 hb5.size lv5 e0 e1 e2 (fun h => spend_ln _ _ _ _ _ _ h) (spend_lengths _ _ _ _ _ _).1, D5.out.far (by omega) (by omega) (HRW.out _ (Nat.le_refl _)) _ _ _, I5.out.far (by omega) _ _ _⟩
        case rest =>
          clear H0 HSG HST HRW D0 I0 D I c0 c1' c2' HT
          obtain ⟨bx, a4, c4, a5, c5, a6, c6, T', O', P', rfl, x, d, i⟩ := hcut
          have DX : Hid (DL B a0 len cap b w wc bl (.slice a1 T.length c1) (.slice (some ⟨gO, 0, none⟩) O.length (dO + 1)) (.slice a3 P.length c3) T O P) := d
          have IX : Hid (IV wc lo (.slice (some ⟨gV, 0, none⟩) V.length cV) V) := i
          have XX : Hid (X7 bl wc bx (.slice a4 (List.length T') c4) (.slice a5 (List.length O') c5) (.slice a6 (List.length P') c6) T' O' P') := x
          have x0 := x.c0
          have x1 := x.c1
          have x2 := x.c2
          have y0 := d.c0
          have y1 := d.c1
          have y2 := d.c2
          have yf := d.fr
          have hT30 : (T'.length : Int) ≤ 30 := by have := x.l30; omega
          clear x d i
          rcases Nat.eq_zero_or_pos T'.length with h0 | h0
          · obtain rfl : T' = [] := List.eq_nil_of_length_eq_zero h0
            clear h0
            go_wp2
            go_roundw
            case rel => exact ⟨j, T, O, P, by go_num, by omega, HL, ⟨_, _, _, _, _, _, DX.out⟩, IX⟩
            case measure => first | (simp [intOf]; done) | (simp [intOf]; omega)
          · have h0i : (0 : Int) < (T'.length : Int) := by omega
            have HP : Hid (∃ lo', bl < lo' ∧ LV wc lo' (.slice a4 (List.length T') c4) (.slice a5 (List.length O') c5) (.slice a6 (List.length P') c6) T' O' P') := XX.out.lv
            go_wp2
            go_roundw
            case rel =>
              obtain ⟨lo', hlo', lv⟩ := HP.out
              exact ⟨j, T', O', P', by go_num, by omega, XX.out.ln h0, ⟨_, _, _, _, _, _, DX.out.over (Below.refl _ _) hlo' lv⟩, ((IX.out.set hblc _ _).set hblc _ _).set hblc _ _⟩
            case measure => first | (simp [intOf]; done) | (simp [intOf]; omega)
end Go.Proofs.Ytmophpbfaonfmac
namespace Go.Proofs.Ytmophpbfaonfmac
open Go.ChangeShapes Go.WideShapes Go.ChangeAt Go.RowKit
set_option maxRecDepth 100000
set_option linter.unusedVariables false
set_option linter.unusedSimpArgs false

/-- A list lies in memory, in a block from lo on. -/
def QR (lo : Nat) (w : World) (a : Option Addr) (xs : List Q4) : Prop := Quad w.heap.size w a xs ∧ ∀ g o, a = some ⟨g, o, none⟩ → xs ≠ [] → lo ≤ g
theorem qv_qr {w : World} {lo n c : Nat} {a : Option Addr} {xs : List Q4} (h : QV w lo (.slice a n c) xs) : QR lo w a xs := by
  refine ⟨h.quad.2, fun g o e hx => ?_⟩
  rcases h with ⟨g', cap, e', h1, _⟩ | ⟨_, e'⟩
  · injection e' with e1 _ _
    rw [e] at e1
    injection e1 with e1
    injection e1 with e1
    omega
  · exact absurd e' hx
theorem QR.only {lo b : Nat} {w w' : World} {a : Option Addr} {xs : List Q4} (h : QR lo w a xs) (o : Only b w w') (hb : b < lo) : QR lo w' a xs := by
  refine ⟨fun k hk => ?_, h.2⟩
  obtain ⟨g, q, e, hg, hc⟩ := h.1 k hk
  have hlo := h.2 g q e (fun h0 => by subst h0; simp at hk)
  have hn : g ≠ b := by omega
  exact ⟨g, q, e, Nat.lt_of_lt_of_le hg o.size, (o.cell (p := ⟨g, _, none⟩) hg hn).trans hc.1, (o.cell (p := ⟨g, _, none⟩) hg hn).trans hc.2.1, (o.cell (p := ⟨g, _, none⟩) hg hn).trans hc.2.2.1, (o.cell (p := ⟨g, _, none⟩) hg hn).trans hc.2.2.2⟩
theorem QR.lower {lo lo' : Nat} {w : World} {a : Option Addr} {xs : List Q4} (h : QR lo w a xs) (hl : lo' ≤ lo) : QR lo' w a xs := ⟨h.1, fun g o e hx => Nat.le_trans hl (h.2 g o e hx)⟩
/-- A Lend in the variable bl, whatever its numbers. -/
def Z7 (B : Nat) (a0 : Option Addr) (len cap b : Nat) (w wd : World) (bl : Nat) : Prop := ∃ a1 c1 a2 c2 a3 c3 T O P, (Cur B a0 len cap b wd ∧ Only b w wd) ∧ (wd.cell? ⟨bl, 0, none⟩ = some (.slice a1 (List.length T) c1) ∧ wd.cell? ⟨bl, 1, none⟩ = some (.slice a2 (List.length O) c2) ∧ wd.cell? ⟨bl, 2, none⟩ = some (.slice a3 (List.length P) c3)) ∧ (QR w.heap.size wd a1 T ∧ QR w.heap.size wd a2 O ∧ QR w.heap.size wd a3 P) ∧ (T.length ≤ 30 ∧ O.length ≤ 30 ∧ P.length ≤ 30 ∧ 1 ≤ T.length)
section
variable {B : Nat} {a0 : Option Addr} {len cap b : Nat} {w wr : World} {bl : Nat} {T O P : List Q4}
theorem z7_of {a1 a2 a3 : Option Addr} {c1 c2 c3 : Nat} (d : DL B a0 len cap b w wr bl (.slice a1 T.length c1) (.slice a2 O.length c2) (.slice a3 P.length c3) T O P) (l : Ln T O P) : Z7 B a0 len cap b w wr bl :=
  ⟨a1, c1, a2, c2, a3, c3, T, O, P, ⟨d.cur, d.only⟩, ⟨d.c0, d.c1, d.c2⟩, ⟨qv_qr d.lv.t, qv_qr d.lv.o, qv_qr d.lv.p⟩, l.2.1, by have := l.2.2.1; have := l.2.1; omega, by have := l.2.2.2; have := l.2.1; omega, l.1⟩
theorem lv_putT {w : World} {lo : Nat} {s2 s3 : Value} {g c : Nat} {T O P : List Q4} (h : LV w lo (.slice (some ⟨g, 0, none⟩) T.length (c + 1)) s2 s3 T O P) (j : Nat) (z : Int) : ∃ T' : List Q4, T'.length = T.length ∧ LV (w.setCell ⟨g, j, none⟩ (.int .i64 z)) lo (.slice (some ⟨g, 0, none⟩) T.length (c + 1)) s2 s3 T' O P := by
  have hg := OnlyP.of (OnlyO.of_grown (grown_set w g j (.int .i64 z)))
  rcases h.t with ⟨g', cap, e, h1, h2, f, hc⟩ | ⟨⟨a, e⟩, _⟩
  · injection e with e1 e2 e3
    injection e1 with e1
    injection e1 with e1
    subst e1 e3
    obtain ⟨T', hl, f'⟩ := qfill_put f rfl (j := j) z
    exact ⟨T', hl, ⟨.inl ⟨g, c + 1, by rw [hl], h1, by simpa using h2, by rw [hl]; exact f', by omega⟩, h.o.onlyP hg (fun x hx e => h.to g rfl (by rw [e]; exact hx)), h.p.onlyP hg (fun x hx e => h.tp g rfl (by rw [e]; exact hx)), h.to, h.tp, h.op⟩⟩
  · injection e with _ _ e3
    cases e3
theorem DL.putT {s2 s3 : Value} {g c : Nat} (d : DL B a0 len cap b w wr bl (.slice (some ⟨g, 0, none⟩) T.length (c + 1)) s2 s3 T O P) (j : Nat) (z : Int) : ∃ T' : List Q4, T'.length = T.length ∧ DL B a0 len cap b w (wr.setCell ⟨g, j, none⟩ (.int .i64 z)) bl (.slice (some ⟨g, 0, none⟩) T.length (c + 1)) s2 s3 T' O P := by
  obtain ⟨T', hl, lv⟩ := lv_putT d.lv j z
  have hin : inL (.slice (some ⟨g, 0, none⟩) T.length (c + 1)) s2 s3 g := .inl rfl
  have hlo := (d.lv.lo hin).1
  have hn : g ≠ bl := fun e => d.ap (by rw [← e]; exact hin)
  have hB : Below w.heap.size wr (wr.setCell ⟨g, j, none⟩ (.int .i64 z)) := (Below.refl _ _).setCell (by simp only; omega) _
  exact ⟨T', hl, ⟨d.cur.under hB d.lt, only_low d.only hB, d.lt, d.bl0, by simpa using d.bl1, (set_far hn).trans d.c0, (set_far hn).trans d.c1, (set_far hn).trans d.c2, fun i => by simpa only [World.frozen?_setCell] using d.fr i, lv, d.ap⟩⟩
theorem z7_putT {v2 v3 : Option Addr} {k2 k3 g c : Nat} (d : DL B a0 len cap b w wr bl (.slice (some ⟨g, 0, none⟩) T.length (c + 1)) (.slice v2 O.length k2) (.slice v3 P.length k3) T O P) (l : Ln T O P) (j : Nat) (z : Int) : Z7 B a0 len cap b w (wr.setCell ⟨g, j, none⟩ (.int .i64 z)) bl := by
  obtain ⟨T', hl, d'⟩ := d.putT j z
  rw [← hl] at d'
  exact z7_of d' (by unfold Ln at l ⊢; omega)
theorem lv_putO {w : World} {lo : Nat} {s1 s3 : Value} {g c : Nat} {T O P : List Q4} (h : LV w lo s1 (.slice (some ⟨g, 0, none⟩) O.length (c + 1)) s3 T O P) (j : Nat) (z : Int) : ∃ O' : List Q4, O'.length = O.length ∧ LV (w.setCell ⟨g, j, none⟩ (.int .i64 z)) lo s1 (.slice (some ⟨g, 0, none⟩) O.length (c + 1)) s3 T O' P := by
  have hg := OnlyP.of (OnlyO.of_grown (grown_set w g j (.int .i64 z)))
  rcases h.o with ⟨g', cap, e, h1, h2, f, hc⟩ | ⟨⟨a, e⟩, _⟩
  · injection e with e1 e2 e3
    injection e1 with e1
    injection e1 with e1
    subst e1 e3
    obtain ⟨O', hl, f'⟩ := qfill_put f rfl (j := j) z
    exact ⟨O', hl, ⟨h.t.onlyP hg (fun x hx e => h.to x hx (by rw [← e]; rfl)), .inl ⟨g, c + 1, by rw [hl], h1, by simpa using h2, by rw [hl]; exact f', by omega⟩, h.p.onlyP hg (fun x hx e => h.op g rfl (by rw [e]; exact hx)), h.to, h.tp, h.op⟩⟩
  · injection e with _ _ e3
    cases e3
theorem DL.putO {s1 s3 : Value} {g c : Nat} (d : DL B a0 len cap b w wr bl s1 (.slice (some ⟨g, 0, none⟩) O.length (c + 1)) s3 T O P) (j : Nat) (z : Int) : ∃ O' : List Q4, O'.length = O.length ∧ DL B a0 len cap b w (wr.setCell ⟨g, j, none⟩ (.int .i64 z)) bl s1 (.slice (some ⟨g, 0, none⟩) O.length (c + 1)) s3 T O' P := by
  obtain ⟨O', hl, lv⟩ := lv_putO d.lv j z
  have hin : inL s1 (.slice (some ⟨g, 0, none⟩) O.length (c + 1)) s3 g := .inr (.inl rfl)
  have hlo := (d.lv.lo hin).1
  have hn : g ≠ bl := fun e => d.ap (by rw [← e]; exact hin)
  have hB : Below w.heap.size wr (wr.setCell ⟨g, j, none⟩ (.int .i64 z)) := (Below.refl _ _).setCell (by simp only; omega) _
  exact ⟨O', hl, ⟨d.cur.under hB d.lt, only_low d.only hB, d.lt, d.bl0, by simpa using d.bl1, (set_far hn).trans d.c0, (set_far hn).trans d.c1, (set_far hn).trans d.c2, fun i => by simpa only [World.frozen?_setCell] using d.fr i, lv, d.ap⟩⟩
theorem z7_putO {v1 v3 : Option Addr} {k1 k3 g c : Nat} (d : DL B a0 len cap b w wr bl (.slice v1 T.length k1) (.slice (some ⟨g, 0, none⟩) O.length (c + 1)) (.slice v3 P.length k3) T O P) (l : Ln T O P) (j : Nat) (z : Int) : Z7 B a0 len cap b w (wr.setCell ⟨g, j, none⟩ (.int .i64 z)) bl := by
  obtain ⟨O', hl, d'⟩ := d.putO j z
  rw [← hl] at d'
  exact z7_of d' (by unfold Ln at l ⊢; omega)
theorem lv_putP {w : World} {lo : Nat} {s1 s2 : Value} {g c : Nat} {T O P : List Q4} (h : LV w lo s1 s2 (.slice (some ⟨g, 0, none⟩) P.length (c + 1)) T O P) (j : Nat) (z : Int) : ∃ P' : List Q4, P'.length = P.length ∧ LV (w.setCell ⟨g, j, none⟩ (.int .i64 z)) lo s1 s2 (.slice (some ⟨g, 0, none⟩) P.length (c + 1)) T O P' := by
  have hg := OnlyP.of (OnlyO.of_grown (grown_set w g j (.int .i64 z)))
  rcases h.p with ⟨g', cap, e, h1, h2, f, hc⟩ | ⟨⟨a, e⟩, _⟩
  · injection e with e1 e2 e3
    injection e1 with e1
    injection e1 with e1
    subst e1 e3
    obtain ⟨P', hl, f'⟩ := qfill_put f rfl (j := j) z
    exact ⟨P', hl, ⟨h.t.onlyP hg (fun x hx e => h.tp x hx (by rw [← e]; rfl)), h.o.onlyP hg (fun x hx e => h.op x hx (by rw [← e]; rfl)), .inl ⟨g, c + 1, by rw [hl], h1, by simpa using h2, by rw [hl]; exact f', by omega⟩, h.to, h.tp, h.op⟩⟩
  · injection e with _ _ e3
    cases e3
theorem DL.putP {s1 s2 : Value} {g c : Nat} (d : DL B a0 len cap b w wr bl s1 s2 (.slice (some ⟨g, 0, none⟩) P.length (c + 1)) T O P) (j : Nat) (z : Int) : ∃ P' : List Q4, P'.length = P.length ∧ DL B a0 len cap b w (wr.setCell ⟨g, j, none⟩ (.int .i64 z)) bl s1 s2 (.slice (some ⟨g, 0, none⟩) P.length (c + 1)) T O P' := by
  obtain ⟨P', hl, lv⟩ := lv_putP d.lv j z
  have hin : inL s1 s2 (.slice (some ⟨g, 0, none⟩) P.length (c + 1)) g := .inr (.inr rfl)
  have hlo := (d.lv.lo hin).1
  have hn : g ≠ bl := fun e => d.ap (by rw [← e]; exact hin)
  have hB : Below w.heap.size wr (wr.setCell ⟨g, j, none⟩ (.int .i64 z)) := (Below.refl _ _).setCell (by simp only; omega) _
  exact ⟨P', hl, ⟨d.cur.under hB d.lt, only_low d.only hB, d.lt, d.bl0, by simpa using d.bl1, (set_far hn).trans d.c0, (set_far hn).trans d.c1, (set_far hn).trans d.c2, fun i => by simpa only [World.frozen?_setCell] using d.fr i, lv, d.ap⟩⟩
theorem z7_putP {v1 v2 : Option Addr} {k1 k2 g c : Nat} (d : DL B a0 len cap b w wr bl (.slice v1 T.length k1) (.slice v2 O.length k2) (.slice (some ⟨g, 0, none⟩) P.length (c + 1)) T O P) (l : Ln T O P) (j : Nat) (z : Int) : Z7 B a0 len cap b w (wr.setCell ⟨g, j, none⟩ (.int .i64 z)) bl := by
  obtain ⟨P', hl, d'⟩ := d.putP j z
  rw [← hl] at d'
  exact z7_of d' (by unfold Ln at l ⊢; omega)
theorem DL.lv_bl {s1 s2 s3 : Value} (d : DL B a0 len cap b w wr bl s1 s2 s3 T O P) (i : Nat) (u : Value) : LV (wr.setCell ⟨bl, i, none⟩ u) w.heap.size s1 s2 s3 T O P :=
  d.lv.onlyP (p := fun k => k = bl) ((Only.refl bl wr).setCell rfl u).onlyP (fun g hg e => d.ap (by subst e; exact .inl hg)) (fun g hg e => d.ap (by subst e; exact .inr (.inl hg))) (fun g hg e => d.ap (by subst e; exact .inr (.inr hg)))
theorem z7_store {a1 a2 : Option Addr} {c1 c2 : Nat} {s3 : Value} (d : DL B a0 len cap b w wr bl (.slice a1 T.length c1) (.slice a2 O.length c2) s3 T O P) (l : Ln T O P) {a : Option Addr} {n c : Nat} {xs : List Q4} (hn : n = xs.length) (hx : xs.length ≤ 30) (q : QR w.heap.size (wr.setCell ⟨bl, 2, none⟩ (.slice a n c)) a xs) : Z7 B a0 len cap b w (wr.setCell ⟨bl, 2, none⟩ (.slice a n c)) bl := by
  subst hn
  have h0 := d.bl0
  have hB : Below w.heap.size wr (wr.setCell ⟨bl, 2, none⟩ (.slice a xs.length c)) := (Below.refl _ _).setCell (by simp only; omega) _
  have lv := d.lv_bl 2 (.slice a xs.length c)
  exact ⟨a1, c1, a2, c2, a, c, T, O, xs, ⟨d.cur.under hB d.lt, only_low d.only hB⟩, ⟨(set_other (by decide)).trans d.c0, (set_other (by decide)).trans d.c1, World.cell?_setCell_same' _ _ _ (by rw [d.c2]; rfl)⟩, ⟨qv_qr lv.t, qv_qr lv.o, q⟩, l.2.1, by have := l.2.2.1; have := l.2.1; omega, hx, l.1⟩
theorem quad_tail {W : World} {a : Nat} {xs : List Q4} (h : Quad W.heap.size W (some ⟨a, 0, none⟩) xs) : Quad W.heap.size W (some ⟨a, 4, none⟩) xs.tail := by
  intro k hk
  have hk' : k + 1 < xs.length := by simp at hk; omega
  obtain ⟨b, o, e, hb, hc⟩ := h (k + 1) hk'
  injection e with e
  injection e with e1 e2
  subst e1 e2
  refine ⟨a, 4, rfl, hb, ?_⟩
  have e4 : 0 + (k + 1) * 4 = 4 + k * 4 := by omega
  rw [e4] at hc
  simpa using hc
theorem tab3_in (a b c : Int) (X : Nat) (h : X < 3) : ∃ y : Int, (#[Value.int IntKind.i64 a, Value.int IntKind.i64 b, Value.int IntKind.i64 c] : Array Value)[X]? = some (.int .i64 y) := by
  match X, h with
  | 0, _ => exact ⟨_, rfl⟩
  | 1, _ => exact ⟨_, rfl⟩
  | 2, _ => exact ⟨_, rfl⟩
theorem z7_cut {a1 a2 : Option Addr} {c1 c2 g c : Nat} (d : DL B a0 len cap b w wr bl (.slice a1 T.length c1) (.slice a2 O.length c2) (.slice (some ⟨g, 0, none⟩) P.length (c + 1)) T O P) (l : Ln T O P) : Z7 B a0 len cap b w (wr.setCell ⟨bl, 2, none⟩ (.slice (some ⟨g, 4, none⟩) (P.length - 1) c)) bl := by
  have lv := d.lv_bl 2 (.slice (some ⟨g, 4, none⟩) (P.length - 1) c)
  have hq := qv_qr lv.p
  refine z7_store d l (xs := P.tail) (by simp) (by have := l.2.2.2; have := l.2.1; simp; omega) ⟨quad_tail hq.1, fun g' o e hx => ?_⟩
  injection e with e
  injection e with e1 e2
  subst e1
  exact hq.2 g 0 rfl (fun h => hx (by rw [h]; rfl))
theorem z7_none {a1 a2 a3 : Option Addr} {c1 c2 c3 : Nat} (d : DL B a0 len cap b w wr bl (.slice a1 T.length c1) (.slice a2 O.length c2) (.slice a3 P.length c3) T O P) (l : Ln T O P) (h1 : P.length ≤ 1) (a : Option Addr) : Z7 B a0 len cap b w (wr.setCell ⟨bl, 2, none⟩ (.slice a (P.length - 1) 0)) bl :=
  z7_store d l (xs := []) (by simp; omega) (by simp) ⟨Quad.nil _ _ _, fun _ _ _ h => absurd rfl h⟩
end
/-- A Lend, drawn. -/
def A7Post (B : Nat) (a0 : Option Addr) (len cap b : Nat) (w : World) (e : Ending) (w' : World) : Prop := ∃ a1 c1 a2 c2 a3 c3 T O P, e = .returned (lendV a1 (List.length T) c1 a2 (List.length O) c2 a3 (List.length P) c3) ∧ (Cur B a0 len cap b w' ∧ Only b w w') ∧ (QR w.heap.size w' a1 T ∧ QR w.heap.size w' a2 O ∧ QR w.heap.size w' a3 P) ∧ (T.length ≤ 30 ∧ O.length ≤ 30 ∧ P.length ≤ 30 ∧ 1 ≤ T.length)
set_option maxHeartbeats 8000000 in
theorem l7DrawAny_acc {B : Nat} {a0 : Option Addr} {len cap b : Nat} {w0 : World} (k : Cur B a0 len cap b w0) :
    Calls Try.prog 141 #[.pointer (some ⟨b, 0, none⟩)] w0 (A7Post B a0 len cap b w0) := by
  have hlt := k.hi
  obtain ⟨w, hw, kw, ow, zw, r0, r1, r2, rf⟩ : ∃ w, w0.alloc (.cells #[.slice none 0 0, .slice none 0 0, .slice none 0 0] 64) = w ∧ Cur B a0 len cap b w ∧ Only b w0 w ∧ w.heap.size = w0.heap.size + 1 ∧ w.cell? ⟨w0.heap.size, 0, none⟩ = some (.slice none 0 0) ∧ w.cell? ⟨w0.heap.size, 1, none⟩ = some (.slice none 0 0) ∧ w.cell? ⟨w0.heap.size, 2, none⟩ = some (.slice none 0 0) ∧ ∀ i, w.frozen? ⟨w0.heap.size, i, none⟩ = false :=
    ⟨_, rfl, k.alloc _, (Only.refl _ _).alloc _, by simp, by go_simp, by go_simp, by go_simp, fun i => by go_simp⟩
  go_enter Try.func141, Try.ntmps141
  go_upto_region 1 with (fail)
  clear hw
  have hbw : b < w.heap.size := kw.hi
  go_upto_region 2 with (first
    | (go_at_call 159; refine (l7Draw_acc kw).mono ?_; rintro e wC ⟨a1, c1, a2, c2, a3, c3, T, O, P, rfl, kC, oC, lvC, hln⟩))
  have HL : Hid (Ln T O P) := hln
  obtain ⟨gT, gO, gP, dT, dO, dP, hrows⟩ : ∃ gT gO gP dT dO dP, (Value.slice a1 T.length c1 = .slice (some ⟨gT, 0, none⟩) T.length (dT + 1) ∧ Value.slice a2 O.length c2 = .slice (some ⟨gO, 0, none⟩) O.length (dO + 1) ∧ Value.slice a3 P.length c3 = .slice (some ⟨gP, 0, none⟩) P.length (dP + 1)) ∧ P.length ≤ dP + 1 := by
    obtain ⟨l1, l2, l3, l4⟩ := hln
    obtain ⟨gT, dT, e1, _⟩ := qv_row lvC.t (by omega)
    obtain ⟨gO, dO, e2, _⟩ := qv_row lvC.o (by omega)
    obtain ⟨gP, dP, e3, _, _, _, h3⟩ := qv_row lvC.p (by omega)
    exact ⟨gT, gO, gP, dT, dO, dP, ⟨e1, e2, e3⟩, h3⟩
  obtain ⟨⟨eT, eO, eP⟩, hdP⟩ := hrows
  injection eT with eT1 eT2 eT3
  injection eO with eO1 eO2 eO3
  injection eP with eP1 eP2 eP3
  subst eT1 eT3 eO1 eO3 eP1 eP3
  clear eT2 eO2 eP2
  have D0 : Hid (DL B a0 len cap b w (wC.alloc (.cells #[.slice (some ⟨gT, 0, none⟩) T.length (dT + 1), .slice (some ⟨gO, 0, none⟩) O.length (dO + 1), .slice (some ⟨gP, 0, none⟩) P.length (dP + 1)] 64)) wC.heap.size (.slice (some ⟨gT, 0, none⟩) T.length (dT + 1)) (.slice (some ⟨gO, 0, none⟩) O.length (dO + 1)) (.slice (some ⟨gP, 0, none⟩) P.length (dP + 1)) T O P) := by
    have h := DL.new kC oC hbw lvC
    exact h
  clear lvC kC oC
  obtain ⟨v, hv⟩ : ∃ v, wC.alloc (.cells #[.slice (some ⟨gT, 0, none⟩) T.length (dT + 1), .slice (some ⟨gO, 0, none⟩) O.length (dO + 1), .slice (some ⟨gP, 0, none⟩) P.length (dP + 1)] 64) = v := ⟨_, rfl⟩
  obtain ⟨bl, hbl⟩ : ∃ bl, wC.heap.size = bl := ⟨_, rfl⟩
  rw [hv, hbl] at D0 ⊢
  clear hv hbl
  have hTi : (1 : Int) ≤ (T.length : Int) := by have := hln.1; omega
  have hTj : (T.length : Int) ≤ 30 := by have := hln.2.1; omega
  have HlO : Hid (O.length = T.length) := hln.2.2.1
  have HlP : Hid (P.length = T.length) := hln.2.2.2
  clear hln
  go_upto_if 8 with (first
    | (go_at_call 69; refine (once_acc _ D0.out.cur (Only.refl _ _) (by omega) (by omega)).mono ?_; rintro e vO ⟨fO, rfl, kO, oO⟩; have D1 : Hid (DL B a0 len cap b w vO bl (.slice (some ⟨gT, 0, none⟩) T.length (dT + 1)) (.slice (some ⟨gO, 0, none⟩) O.length (dO + 1)) (.slice (some ⟨gP, 0, none⟩) P.length (dP + 1)) T O P) := D0.out.draw oO kO))
  clear D0 kO oO
  go_cut [4, 6] from 9 to 75 (fun _ _ wd => Z7 B a0 len cap b w wd bl)
  case first =>
    cases fO
    · go_wp2
      go_meet
      exact z7_of D1.out HL.out
    · have y0 := D1.out.c0
      go_upto_region 4 with (first
        | (go_at_call 68; refine (below_acc _ D1.out.cur (Only.refl _ _) (by omega) (by omega)).mono ?_; rintro e v2 ⟨xk, rfl, hxk, k2, o2⟩; have D2 : Hid (DL B a0 len cap b w v2 bl (.slice (some ⟨gT, 0, none⟩) T.length (dT + 1)) (.slice (some ⟨gO, 0, none⟩) O.length (dO + 1)) (.slice (some ⟨gP, 0, none⟩) P.length (dP + 1)) T O P) := D1.out.draw o2 k2; obtain ⟨k, rfl⟩ := Int.eq_ofNat_of_zero_le hxk.1))
      have hk : k < T.length := by omega
      have hkO : k < O.length := by rw [HlO.out]; exact hk
      have hkP : k < P.length := by rw [HlP.out]; exact hk
      have kT : (k : Int) < (T.length : Int) := by omega
      have kO : (k : Int) < (O.length : Int) := by omega
      have kP : (k : Int) < (P.length : Int) := by omega
      have hP30 : (P.length : Int) ≤ 30 := by rw [HlP.out]; exact hTj
      have hP1 : (1 : Int) ≤ (P.length : Int) := by omega
      clear D1 k2 o2 y0 hxk
      obtain ⟨cc, hcc⟩ : ∃ cc, T[k].2.2.1 = cc := ⟨_, rfl⟩
      obtain ⟨ll, hll⟩ : ∃ ll, O[k].2.2.1 = ll := ⟨_, rfl⟩
      obtain ⟨tt, htt⟩ : ∃ tt, P[k].2.2.2 = tt := ⟨_, rfl⟩
      have HC : Hid (∀ W, DL B a0 len cap b w W bl (.slice (some ⟨gT, 0, none⟩) T.length (dT + 1)) (.slice (some ⟨gO, 0, none⟩) O.length (dO + 1)) (.slice (some ⟨gP, 0, none⟩) P.length (dP + 1)) T O P → (W.cell? ⟨bl, 0, none⟩ = some (.slice (some ⟨gT, 0, none⟩) T.length (dT + 1)) ∧ W.cell? ⟨bl, 1, none⟩ = some (.slice (some ⟨gO, 0, none⟩) O.length (dO + 1)) ∧ W.cell? ⟨bl, 2, none⟩ = some (.slice (some ⟨gP, 0, none⟩) P.length (dP + 1))) ∧ (W.cell? ⟨gT, k * 4 + 2, none⟩ = some (.int .i64 cc) ∧ W.cell? ⟨gO, k * 4 + 2, none⟩ = some (.int .i64 ll) ∧ W.cell? ⟨gP, k * 4 + 3, none⟩ = some (.int .i64 tt)) ∧ (∃ z, W.cell? ⟨gO, k * 4, none⟩ = some (.int .i64 z)) ∧ (W.frozen? ⟨gT, k * 4 + 2, none⟩ = false ∧ W.frozen? ⟨gO, k * 4 + 2, none⟩ = false ∧ W.frozen? ⟨gP, k * 4 + 3, none⟩ = false ∧ W.frozen? ⟨gO, k * 4, none⟩ = false ∧ ∀ i, W.frozen? ⟨bl, i, none⟩ = false)) := fun W d => by
        obtain ⟨x1, _, e1, _, _, f1, _⟩ := qv_row d.lv.t (by omega)
        obtain ⟨x2, _, e2, _, _, f2, _⟩ := qv_row d.lv.o (by omega)
        obtain ⟨x3, _, e3, _, _, f3, _⟩ := qv_row d.lv.p (by omega)
        injection e1 with e1 _ _
        injection e1 with e1
        injection e1 with e1
        injection e2 with e2 _ _
        injection e2 with e2
        injection e2 with e2
        injection e3 with e3 _ _
        injection e3 with e3
        injection e3 with e3
        subst e1 e2 e3
        have g1 := f1.got k hk hk
        have g2 := f2.got k hkO hkO
        have g3 := f3.got k hkP hkP
        rw [hcc] at g1
        rw [hll] at g2
        rw [htt] at g3
        exact ⟨⟨d.c0, d.c1, d.c2⟩, ⟨g1.2.2.1, g2.2.2.1, g3.2.2.2⟩, ⟨_, g2.1⟩, (f1.any _ (by omega)).2, (f2.any _ (by omega)).2, (f3.any _ (by omega)).2, (f2.any _ (by omega)).2, d.fr⟩
      clear hcc hll htt
      go_upto_region 5 with (first
        | (go_at_call 68; refine (below_acc _ D2.out.cur (Only.refl _ _) (by omega) (by omega)).mono ?_; rintro e v3 ⟨x5, rfl, hx5, k5, o5⟩; have D : Hid (DL B a0 len cap b w v3 bl (.slice (some ⟨gT, 0, none⟩) T.length (dT + 1)) (.slice (some ⟨gO, 0, none⟩) O.length (dO + 1)) (.slice (some ⟨gP, 0, none⟩) P.length (dP + 1)) T O P) := D2.out.draw o5 k5))
      clear D2 k5 o5
      have ⟨⟨b0, b1, b2⟩, ⟨s0, s1, s2⟩, ⟨zz, s3⟩, f0, f1, f2, f3, fb⟩ := HC.out _ D.out
      rcases (show x5 = 0 ∨ x5 = 1 ∨ x5 = 2 ∨ x5 = 3 ∨ x5 = 4 from (by omega)) with rfl | rfl | rfl | rfl | rfl
      · go_upto_region 6 with (fail)
        refine region_late (S := fun w' => w'.cell? ⟨bl, 1, none⟩ = some (.slice (some ⟨gO, 0, none⟩) O.length (dO + 1)) ∧ w'.cell? ⟨gO, k * 4 + 2, none⟩ = some (.int .i64 ll)) 17 (by kernel_rfl) (by go_simp) (fun hS => ?_)
        refine late_take (i := 0) (v := ?_) rfl (by kernel_rfl) (by kernel_rfl) (by kernel_rfl) (by kernel_rfl) (fun _ _ _ h => h) (Or.inl ⟨by rfl, ?_⟩) (by assumption) ?_
        rotate_left 1
        · (intro w' hSw; (try dsimp only at hSw); go_simp; try with_reducible rfl)
        try simp only [Act.put, List.setIfInBounds_toArray, List.set_cons_zero, List.set_cons_succ, List.getElem_toArray, List.getElem_cons_succ, List.getElem_cons_zero]
        refine late_take (i := 1) (v := ?_) rfl (by kernel_rfl) (by kernel_rfl) (by kernel_rfl) (by kernel_rfl) (fun _ _ _ h => h) (Or.inl ⟨by rfl, ?_⟩) (by assumption) ?_
        rotate_left 1
        · (intro w' hSw; (try dsimp only at hSw); go_simp; try with_reducible rfl)
        try simp only [Act.put, List.setIfInBounds_toArray, List.set_cons_zero, List.set_cons_succ, List.getElem_toArray, List.getElem_cons_succ, List.getElem_cons_zero]
        refine late_take (i := 2) (v := ?_) rfl (by kernel_rfl) (by kernel_rfl) (by kernel_rfl) (by kernel_rfl) (fun _ _ _ h => h) (Or.inl ⟨by rfl, ?_⟩) (by assumption) ?_
        rotate_left 1
        · (intro w' hSw; (try dsimp only at hSw); go_simp; try with_reducible rfl)
        try simp only [Act.put, List.setIfInBounds_toArray, List.set_cons_zero, List.set_cons_succ, List.getElem_toArray, List.getElem_cons_succ, List.getElem_cons_zero]
        refine late_take (i := 3) (v := ?_) rfl (by kernel_rfl) (by kernel_rfl) (by kernel_rfl) (by kernel_rfl) (fun _ _ _ h => h) (Or.inl ⟨by rfl, ?_⟩) (by assumption) ?_
        rotate_left 1
        · (intro w' hSw; (try dsimp only at hSw); go_simp; try with_reducible rfl)
        try simp only [Act.put, List.setIfInBounds_toArray, List.set_cons_zero, List.set_cons_succ, List.getElem_toArray, List.getElem_cons_succ, List.getElem_cons_zero]
        refine late_take (i := 4) (v := ?_) rfl (by kernel_rfl) (by kernel_rfl) (by kernel_rfl) (by kernel_rfl) (fun _ _ _ h => h) (Or.inl ⟨by rfl, ?_⟩) (by assumption) ?_
        rotate_left 1
        · (intro w' hSw; (try dsimp only at hSw); go_simp; try with_reducible rfl)
        try simp only [Act.put, List.setIfInBounds_toArray, List.set_cons_zero, List.set_cons_succ, List.getElem_toArray, List.getElem_cons_succ, List.getElem_cons_zero]
        refine late_take (i := 5) (v := ?_) rfl (by kernel_rfl) (by kernel_rfl) (by kernel_rfl) (by kernel_rfl) (fun _ _ _ h => h) (Or.inl ⟨by rfl, ?_⟩) (by assumption) ?_
        rotate_left 1
        · (intro w' hSw; (try dsimp only at hSw); go_simp; try with_reducible rfl)
        try simp only [Act.put, List.setIfInBounds_toArray, List.set_cons_zero, List.set_cons_succ, List.getElem_toArray, List.getElem_cons_succ, List.getElem_cons_zero]
        refine late_take (i := 6) (v := ?_) rfl (by kernel_rfl) (by kernel_rfl) (by kernel_rfl) (by kernel_rfl) (fun _ _ _ h => h) (Or.inl ⟨by rfl, ?_⟩) (by assumption) ?_
        rotate_left 1
        · (intro w' hSw; (try dsimp only at hSw); go_simp; try with_reducible rfl)
        try simp only [Act.put, List.setIfInBounds_toArray, List.set_cons_zero, List.set_cons_succ, List.getElem_toArray, List.getElem_cons_succ, List.getElem_cons_zero]
        refine late_take (i := 7) (v := ?_) rfl (by kernel_rfl) (by kernel_rfl) (by kernel_rfl) (by kernel_rfl) (fun _ _ _ h => h) (Or.inl ⟨by rfl, ?_⟩) (by assumption) ?_
        rotate_left 1
        · (intro w' hSw; (try dsimp only at hSw); go_simp; try with_reducible rfl)
        try simp only [Act.put, List.setIfInBounds_toArray, List.set_cons_zero, List.set_cons_succ, List.getElem_toArray, List.getElem_cons_succ, List.getElem_cons_zero]
        refine late_take (i := 8) (v := ?_) rfl (by kernel_rfl) (by kernel_rfl) (by kernel_rfl) (by kernel_rfl) (fun _ _ _ h => h) (Or.inl ⟨by rfl, ?_⟩) (by assumption) ?_
        rotate_left 1
        · (intro w' hSw; (try dsimp only at hSw); go_simp; try with_reducible rfl)
        try simp only [Act.put, List.setIfInBounds_toArray, List.set_cons_zero, List.set_cons_succ, List.getElem_toArray, List.getElem_cons_succ, List.getElem_cons_zero]
        refine late_take (i := 10) (v := ?_) rfl (by kernel_rfl) (by kernel_rfl) (by kernel_rfl) (by kernel_rfl) (fun _ _ _ h => h) (Or.inl ⟨by rfl, ?_⟩) (by assumption) ?_
        rotate_left 1
        · (intro w' hSw; (try dsimp only at hSw); go_simp; try with_reducible rfl)
        try simp only [Act.put, List.setIfInBounds_toArray, List.set_cons_zero, List.set_cons_succ, List.getElem_toArray, List.getElem_cons_succ, List.getElem_cons_zero]
        refine late_two (i := 9) (j := 11) (by kernel_rfl) rfl rfl (fun K hK => ?_) (fun K hK => ?_)
        · go_simp
          have DA : Hid (DL B a0 len cap b w (v3.drew.alloc (.cells #[.int .i64 1, .int .i64 (-1), .int .i64 1152921504606846976] 2)) bl (.slice (some ⟨gT, 0, none⟩) T.length (dT + 1)) (.slice (some ⟨gO, 0, none⟩) O.length (dO + 1)) (.slice (some ⟨gP, 0, none⟩) P.length (dP + 1)) T O P) := D.out.next ((Below.refl _ _).drew.alloc (Nat.le_refl _) _)
          refine hK.out _ _ (⟨(HC.out _ DA.out).1.2.1, (HC.out _ DA.out).2.1.2.1⟩) (fun hS => ?_)
          try simp only [Act.put, List.setIfInBounds_toArray, List.set_cons_zero, List.set_cons_succ, List.getElem_toArray, List.getElem_cons_succ, List.getElem_cons_zero]
          refine late_one (i := 11) (by kernel_rfl) rfl (fun K hK => ?_)
          go_simp
          (refine (below_acc 3 DA.out.cur (Only.refl _ _) (by omega) (by omega)).mono ?_; rintro e vT ⟨x4, rfl, hx4, kT', oT⟩; have DZ : Hid (DL B a0 len cap b w vT bl (.slice (some ⟨gT, 0, none⟩) T.length (dT + 1)) (.slice (some ⟨gO, 0, none⟩) O.length (dO + 1)) (.slice (some ⟨gP, 0, none⟩) P.length (dP + 1)) T O P) := DA.out.draw oT kT'; obtain ⟨X, rfl⟩ := Int.eq_ofNat_of_zero_le hx4.1; have hX : X < 3 := (by omega); have hXi : (X : Int) < 3 := (by omega); obtain ⟨yy, hy⟩ := tab3_in 1 (-1) 1152921504606846976 X hX; have hcell : vT.cell? ⟨v3.heap.size, X, none⟩ = some (.int .i64 yy) := (table_cell (w := v3.drew) (D.out.next (Below.refl _ _).drew).cur.hi oT X).trans hy; have hS : vT.cell? ⟨bl, 1, none⟩ = some (.slice (some ⟨gO, 0, none⟩) O.length (dO + 1)) ∧ vT.cell? ⟨gO, k * 4 + 2, none⟩ = some (.int .i64 ll) := ⟨(HC.out _ DZ.out).1.2.1, (HC.out _ DZ.out).2.1.2.1⟩; have zF := (HC.out _ DZ.out).2.2.2.2.1; have zC := (HC.out _ DZ.out).2.1.2.1; simp only [])
          refine hK.out _ _ (by assumption) (fun _ => ?_)
          try simp only [Act.put, List.setIfInBounds_toArray, List.set_cons_zero, List.set_cons_succ, List.getElem_toArray, List.getElem_cons_succ, List.getElem_cons_zero]
          refine late_take (i := 12) (v := ?_) rfl (by kernel_rfl) (by kernel_rfl) (by kernel_rfl) (by kernel_rfl) (fun _ _ _ h => h) (Or.inl ⟨by rfl, ?_⟩) (by assumption) ?_
          rotate_left 1
          · (intro w' hSw; (try dsimp only at hSw); go_simp; try with_reducible rfl)
          try simp only [Act.put, List.setIfInBounds_toArray, List.set_cons_zero, List.set_cons_succ, List.getElem_toArray, List.getElem_cons_succ, List.getElem_cons_zero]
          refine late_one (i := 13) (by kernel_rfl) rfl (fun K hK => ?_)
          go_simp
          refine hK.out _ _ (by assumption) (fun _ => ?_)
          try simp only [Act.put, List.setIfInBounds_toArray, List.set_cons_zero, List.set_cons_succ, List.getElem_toArray, List.getElem_cons_succ, List.getElem_cons_zero]
          refine late_take (i := 14) (v := ?_) rfl (by kernel_rfl) (by kernel_rfl) (by kernel_rfl) (by kernel_rfl) (fun _ _ _ h => h) (Or.inl ⟨by rfl, ?_⟩) (by assumption) ?_
          rotate_left 1
          · (intro w' hSw; (try dsimp only at hSw); go_simp; try with_reducible rfl)
          try simp only [Act.put, List.setIfInBounds_toArray, List.set_cons_zero, List.set_cons_succ, List.getElem_toArray, List.getElem_cons_succ, List.getElem_cons_zero]
          refine late_one (i := 15) (by kernel_rfl) rfl (fun K hK => ?_)
          go_simp
          refine hK.out _ _ (by assumption) (fun _ => ?_)
          try simp only [Act.put, List.setIfInBounds_toArray, List.set_cons_zero, List.set_cons_succ, List.getElem_toArray, List.getElem_cons_succ, List.getElem_cons_zero]
          refine late_take (i := 16) (v := ?_) rfl (by kernel_rfl) (by kernel_rfl) (by kernel_rfl) (by kernel_rfl) (fun _ _ _ h => h) (Or.inl ⟨by rfl, ?_⟩) (by assumption) ?_
          rotate_left 1
          · (intro w' hSw; (try dsimp only at hSw); go_simp; try with_reducible rfl)
          try simp only [Act.put, List.setIfInBounds_toArray, List.set_cons_zero, List.set_cons_succ, List.getElem_toArray, List.getElem_cons_succ, List.getElem_cons_zero]
          refine late_last (by kernel_rfl) rfl (by kernel_rfl) (fun K hK => ?_)
          go_simp
          refine hK.out _ _ ?_
          try simp only [Act.put, List.setIfInBounds_toArray, List.set_cons_zero, List.set_cons_succ, List.getElem_toArray, List.getElem_cons_succ, List.getElem_cons_zero]
          repeat go_step
          go_meet
          exact z7_putO DZ.out HL.out _ _
        · go_simp
          (refine (below_acc 3 (D.out.next (Below.refl _ _).drew).cur (Only.refl _ _) (by omega) (by omega)).mono ?_; rintro e vT ⟨x4, rfl, hx4, kT', oT⟩; have D2 : Hid (DL B a0 len cap b w vT bl (.slice (some ⟨gT, 0, none⟩) T.length (dT + 1)) (.slice (some ⟨gO, 0, none⟩) O.length (dO + 1)) (.slice (some ⟨gP, 0, none⟩) P.length (dP + 1)) T O P) := (D.out.next (Below.refl _ _).drew).draw oT kT'; obtain ⟨X, rfl⟩ := Int.eq_ofNat_of_zero_le hx4.1; have hX : X < 3 := (by omega); have hXi : (X : Int) < 3 := (by omega); obtain ⟨yy, hy⟩ := tab3_in 1 (-1) 1152921504606846976 X hX; have hS : vT.cell? ⟨bl, 1, none⟩ = some (.slice (some ⟨gO, 0, none⟩) O.length (dO + 1)) ∧ vT.cell? ⟨gO, k * 4 + 2, none⟩ = some (.int .i64 ll) := ⟨(HC.out _ D2.out).1.2.1, (HC.out _ D2.out).2.1.2.1⟩; simp only [])
          refine hK.out _ _ (by assumption) (fun _ => ?_)
          try simp only [Act.put, List.setIfInBounds_toArray, List.set_cons_zero, List.set_cons_succ, List.getElem_toArray, List.getElem_cons_succ, List.getElem_cons_zero]
          refine late_one (i := 9) (by kernel_rfl) rfl (fun K hK => ?_)
          go_simp
          have DZ : Hid (DL B a0 len cap b w (vT.alloc (.cells #[.int .i64 1, .int .i64 (-1), .int .i64 1152921504606846976] 2)) bl (.slice (some ⟨gT, 0, none⟩) T.length (dT + 1)) (.slice (some ⟨gO, 0, none⟩) O.length (dO + 1)) (.slice (some ⟨gP, 0, none⟩) P.length (dP + 1)) T O P) := D2.out.next (new_below _ _)
          have hcell : (vT.alloc (.cells #[.int .i64 1, .int .i64 (-1), .int .i64 1152921504606846976] 2)).cell? ⟨vT.heap.size, X, none⟩ = some (.int .i64 yy) := (World.cell?_alloc_at _ _ _ _ rfl).trans hy
          have zF := (HC.out _ DZ.out).2.2.2.2.1
          have zC := (HC.out _ DZ.out).2.1.2.1
          refine hK.out _ _ (⟨(HC.out _ DZ.out).1.2.1, (HC.out _ DZ.out).2.1.2.1⟩) (fun hS => ?_)
          try simp only [Act.put, List.setIfInBounds_toArray, List.set_cons_zero, List.set_cons_succ, List.getElem_toArray, List.getElem_cons_succ, List.getElem_cons_zero]
          refine late_take (i := 12) (v := ?_) rfl (by kernel_rfl) (by kernel_rfl) (by kernel_rfl) (by kernel_rfl) (fun _ _ _ h => h) (Or.inl ⟨by rfl, ?_⟩) (by assumption) ?_
          rotate_left 1
          · (intro w' hSw; (try dsimp only at hSw); go_simp; try with_reducible rfl)
          try simp only [Act.put, List.setIfInBounds_toArray, List.set_cons_zero, List.set_cons_succ, List.getElem_toArray, List.getElem_cons_succ, List.getElem_cons_zero]
          refine late_one (i := 13) (by kernel_rfl) rfl (fun K hK => ?_)
          go_simp
          refine hK.out _ _ (by assumption) (fun _ => ?_)
          try simp only [Act.put, List.setIfInBounds_toArray, List.set_cons_zero, List.set_cons_succ, List.getElem_toArray, List.getElem_cons_succ, List.getElem_cons_zero]
          refine late_take (i := 14) (v := ?_) rfl (by kernel_rfl) (by kernel_rfl) (by kernel_rfl) (by kernel_rfl) (fun _ _ _ h => h) (Or.inl ⟨by rfl, ?_⟩) (by assumption) ?_
          rotate_left 1
          · (intro w' hSw; (try dsimp only at hSw); go_simp; try with_reducible rfl)
          try simp only [Act.put, List.setIfInBounds_toArray, List.set_cons_zero, List.set_cons_succ, List.getElem_toArray, List.getElem_cons_succ, List.getElem_cons_zero]
          refine late_one (i := 15) (by kernel_rfl) rfl (fun K hK => ?_)
          go_simp
          refine hK.out _ _ (by assumption) (fun _ => ?_)
          try simp only [Act.put, List.setIfInBounds_toArray, List.set_cons_zero, List.set_cons_succ, List.getElem_toArray, List.getElem_cons_succ, List.getElem_cons_zero]
          refine late_take (i := 16) (v := ?_) rfl (by kernel_rfl) (by kernel_rfl) (by kernel_rfl) (by kernel_rfl) (fun _ _ _ h => h) (Or.inl ⟨by rfl, ?_⟩) (by assumption) ?_
          rotate_left 1
          · (intro w' hSw; (try dsimp only at hSw); go_simp; try with_reducible rfl)
          try simp only [Act.put, List.setIfInBounds_toArray, List.set_cons_zero, List.set_cons_succ, List.getElem_toArray, List.getElem_cons_succ, List.getElem_cons_zero]
          refine late_last (by kernel_rfl) rfl (by kernel_rfl) (fun K hK => ?_)
          go_simp
          refine hK.out _ _ ?_
          try simp only [Act.put, List.setIfInBounds_toArray, List.set_cons_zero, List.set_cons_succ, List.getElem_toArray, List.getElem_cons_succ, List.getElem_cons_zero]
          repeat go_step
          go_meet
          exact z7_putO DZ.out HL.out _ _
      · go_upto_region 8 with (fail)
        refine region_late (S := fun w' => w'.cell? ⟨bl, 2, none⟩ = some (.slice (some ⟨gP, 0, none⟩) P.length (dP + 1)) ∧ w'.cell? ⟨gP, k * 4 + 3, none⟩ = some (.int .i64 tt)) 12 (by kernel_rfl) (by go_simp) (fun hS => ?_)
        refine late_take (i := 0) (v := ?_) rfl (by kernel_rfl) (by kernel_rfl) (by kernel_rfl) (by kernel_rfl) (fun _ _ _ h => h) (Or.inl ⟨by rfl, ?_⟩) (by assumption) ?_
        rotate_left 1
        · (intro w' hSw; (try dsimp only at hSw); go_simp; try with_reducible rfl)
        try simp only [Act.put, List.setIfInBounds_toArray, List.set_cons_zero, List.set_cons_succ, List.getElem_toArray, List.getElem_cons_succ, List.getElem_cons_zero]
        refine late_take (i := 1) (v := ?_) rfl (by kernel_rfl) (by kernel_rfl) (by kernel_rfl) (by kernel_rfl) (fun _ _ _ h => h) (Or.inl ⟨by rfl, ?_⟩) (by assumption) ?_
        rotate_left 1
        · (intro w' hSw; (try dsimp only at hSw); go_simp; try with_reducible rfl)
        try simp only [Act.put, List.setIfInBounds_toArray, List.set_cons_zero, List.set_cons_succ, List.getElem_toArray, List.getElem_cons_succ, List.getElem_cons_zero]
        refine late_take (i := 2) (v := ?_) rfl (by kernel_rfl) (by kernel_rfl) (by kernel_rfl) (by kernel_rfl) (fun _ _ _ h => h) (Or.inl ⟨by rfl, ?_⟩) (by assumption) ?_
        rotate_left 1
        · (intro w' hSw; (try dsimp only at hSw); go_simp; try with_reducible rfl)
        try simp only [Act.put, List.setIfInBounds_toArray, List.set_cons_zero, List.set_cons_succ, List.getElem_toArray, List.getElem_cons_succ, List.getElem_cons_zero]
        refine late_take (i := 3) (v := ?_) rfl (by kernel_rfl) (by kernel_rfl) (by kernel_rfl) (by kernel_rfl) (fun _ _ _ h => h) (Or.inl ⟨by rfl, ?_⟩) (by assumption) ?_
        rotate_left 1
        · (intro w' hSw; (try dsimp only at hSw); go_simp; try with_reducible rfl)
        try simp only [Act.put, List.setIfInBounds_toArray, List.set_cons_zero, List.set_cons_succ, List.getElem_toArray, List.getElem_cons_succ, List.getElem_cons_zero]
        refine late_take (i := 4) (v := ?_) rfl (by kernel_rfl) (by kernel_rfl) (by kernel_rfl) (by kernel_rfl) (fun _ _ _ h => h) (Or.inl ⟨by rfl, ?_⟩) (by assumption) ?_
        rotate_left 1
        · (intro w' hSw; (try dsimp only at hSw); go_simp; try with_reducible rfl)
        try simp only [Act.put, List.setIfInBounds_toArray, List.set_cons_zero, List.set_cons_succ, List.getElem_toArray, List.getElem_cons_succ, List.getElem_cons_zero]
        refine late_take (i := 5) (v := ?_) rfl (by kernel_rfl) (by kernel_rfl) (by kernel_rfl) (by kernel_rfl) (fun _ _ _ h => h) (Or.inl ⟨by rfl, ?_⟩) (by assumption) ?_
        rotate_left 1
        · (intro w' hSw; (try dsimp only at hSw); go_simp; try with_reducible rfl)
        try simp only [Act.put, List.setIfInBounds_toArray, List.set_cons_zero, List.set_cons_succ, List.getElem_toArray, List.getElem_cons_succ, List.getElem_cons_zero]
        refine late_take (i := 6) (v := ?_) rfl (by kernel_rfl) (by kernel_rfl) (by kernel_rfl) (by kernel_rfl) (fun _ _ _ h => h) (Or.inl ⟨by rfl, ?_⟩) (by assumption) ?_
        rotate_left 1
        · (intro w' hSw; (try dsimp only at hSw); go_simp; try with_reducible rfl)
        try simp only [Act.put, List.setIfInBounds_toArray, List.set_cons_zero, List.set_cons_succ, List.getElem_toArray, List.getElem_cons_succ, List.getElem_cons_zero]
        refine late_take (i := 7) (v := ?_) rfl (by kernel_rfl) (by kernel_rfl) (by kernel_rfl) (by kernel_rfl) (fun _ _ _ h => h) (Or.inl ⟨by rfl, ?_⟩) (by assumption) ?_
        rotate_left 1
        · (intro w' hSw; (try dsimp only at hSw); go_simp; try with_reducible rfl)
        try simp only [Act.put, List.setIfInBounds_toArray, List.set_cons_zero, List.set_cons_succ, List.getElem_toArray, List.getElem_cons_succ, List.getElem_cons_zero]
        refine late_take (i := 8) (v := ?_) rfl (by kernel_rfl) (by kernel_rfl) (by kernel_rfl) (by kernel_rfl) (fun _ _ _ h => h) (Or.inl ⟨by rfl, ?_⟩) (by assumption) ?_
        rotate_left 1
        · (intro w' hSw; (try dsimp only at hSw); go_simp; try with_reducible rfl)
        try simp only [Act.put, List.setIfInBounds_toArray, List.set_cons_zero, List.set_cons_succ, List.getElem_toArray, List.getElem_cons_succ, List.getElem_cons_zero]
        refine late_take (i := 9) (v := ?_) rfl (by kernel_rfl) (by kernel_rfl) (by kernel_rfl) (by kernel_rfl) (fun _ _ _ h => h) (Or.inl ⟨by rfl, ?_⟩) (by assumption) ?_
        rotate_left 1
        · (intro w' hSw; (try dsimp only at hSw); go_simp; try with_reducible rfl)
        try simp only [Act.put, List.setIfInBounds_toArray, List.set_cons_zero, List.set_cons_succ, List.getElem_toArray, List.getElem_cons_succ, List.getElem_cons_zero]
        refine late_one (i := 10) (by kernel_rfl) rfl (fun K hK => ?_)
        go_simp
        refine hK.out _ _ (by assumption) (fun _ => ?_)
        try simp only [Act.put, List.setIfInBounds_toArray, List.set_cons_zero, List.set_cons_succ, List.getElem_toArray, List.getElem_cons_succ, List.getElem_cons_zero]
        refine late_take (i := 11) (v := ?_) rfl (by kernel_rfl) (by kernel_rfl) (by kernel_rfl) (by kernel_rfl) (fun _ _ _ h => h) (Or.inl ⟨by rfl, ?_⟩) (by assumption) ?_
        rotate_left 1
        · (intro w' hSw; (try dsimp only at hSw); go_simp; try with_reducible rfl)
        try simp only [Act.put, List.setIfInBounds_toArray, List.set_cons_zero, List.set_cons_succ, List.getElem_toArray, List.getElem_cons_succ, List.getElem_cons_zero]
        refine late_last (by kernel_rfl) rfl (by kernel_rfl) (fun K hK => ?_)
        go_simp
        refine hK.out _ _ ?_
        try simp only [Act.put, List.setIfInBounds_toArray, List.set_cons_zero, List.set_cons_succ, List.getElem_toArray, List.getElem_cons_succ, List.getElem_cons_zero]
        repeat go_step
        go_meet
        exact z7_putP (D.out.next (Below.refl _ _).drew) HL.out _ _
      · go_wp2
        · go_meet
          exact z7_none D.out HL.out (by omega) _
        · go_meet
          exact z7_cut D.out HL.out
      · go_upto_region 12 with (fail)
        refine region_late (S := fun w' => w'.cell? ⟨bl, 0, none⟩ = some (.slice (some ⟨gT, 0, none⟩) T.length (dT + 1)) ∧ w'.cell? ⟨gT, k * 4 + 2, none⟩ = some (.int .i64 cc)) 12 (by kernel_rfl) (by go_simp) (fun hS => ?_)
        refine late_take (i := 0) (v := ?_) rfl (by kernel_rfl) (by kernel_rfl) (by kernel_rfl) (by kernel_rfl) (fun _ _ _ h => h) (Or.inl ⟨by rfl, ?_⟩) (by assumption) ?_
        rotate_left 1
        · (intro w' hSw; (try dsimp only at hSw); go_simp; try with_reducible rfl)
        try simp only [Act.put, List.setIfInBounds_toArray, List.set_cons_zero, List.set_cons_succ, List.getElem_toArray, List.getElem_cons_succ, List.getElem_cons_zero]
        refine late_take (i := 1) (v := ?_) rfl (by kernel_rfl) (by kernel_rfl) (by kernel_rfl) (by kernel_rfl) (fun _ _ _ h => h) (Or.inl ⟨by rfl, ?_⟩) (by assumption) ?_
        rotate_left 1
        · (intro w' hSw; (try dsimp only at hSw); go_simp; try with_reducible rfl)
        try simp only [Act.put, List.setIfInBounds_toArray, List.set_cons_zero, List.set_cons_succ, List.getElem_toArray, List.getElem_cons_succ, List.getElem_cons_zero]
        refine late_take (i := 2) (v := ?_) rfl (by kernel_rfl) (by kernel_rfl) (by kernel_rfl) (by kernel_rfl) (fun _ _ _ h => h) (Or.inl ⟨by rfl, ?_⟩) (by assumption) ?_
        rotate_left 1
        · (intro w' hSw; (try dsimp only at hSw); go_simp; try with_reducible rfl)
        try simp only [Act.put, List.setIfInBounds_toArray, List.set_cons_zero, List.set_cons_succ, List.getElem_toArray, List.getElem_cons_succ, List.getElem_cons_zero]
        refine late_take (i := 3) (v := ?_) rfl (by kernel_rfl) (by kernel_rfl) (by kernel_rfl) (by kernel_rfl) (fun _ _ _ h => h) (Or.inl ⟨by rfl, ?_⟩) (by assumption) ?_
        rotate_left 1
        · (intro w' hSw; (try dsimp only at hSw); go_simp; try with_reducible rfl)
        try simp only [Act.put, List.setIfInBounds_toArray, List.set_cons_zero, List.set_cons_succ, List.getElem_toArray, List.getElem_cons_succ, List.getElem_cons_zero]
        refine late_take (i := 4) (v := ?_) rfl (by kernel_rfl) (by kernel_rfl) (by kernel_rfl) (by kernel_rfl) (fun _ _ _ h => h) (Or.inl ⟨by rfl, ?_⟩) (by assumption) ?_
        rotate_left 1
        · (intro w' hSw; (try dsimp only at hSw); go_simp; try with_reducible rfl)
        try simp only [Act.put, List.setIfInBounds_toArray, List.set_cons_zero, List.set_cons_succ, List.getElem_toArray, List.getElem_cons_succ, List.getElem_cons_zero]
        refine late_take (i := 5) (v := ?_) rfl (by kernel_rfl) (by kernel_rfl) (by kernel_rfl) (by kernel_rfl) (fun _ _ _ h => h) (Or.inl ⟨by rfl, ?_⟩) (by assumption) ?_
        rotate_left 1
        · (intro w' hSw; (try dsimp only at hSw); go_simp; try with_reducible rfl)
        try simp only [Act.put, List.setIfInBounds_toArray, List.set_cons_zero, List.set_cons_succ, List.getElem_toArray, List.getElem_cons_succ, List.getElem_cons_zero]
        refine late_take (i := 6) (v := ?_) rfl (by kernel_rfl) (by kernel_rfl) (by kernel_rfl) (by kernel_rfl) (fun _ _ _ h => h) (Or.inl ⟨by rfl, ?_⟩) (by assumption) ?_
        rotate_left 1
        · (intro w' hSw; (try dsimp only at hSw); go_simp; try with_reducible rfl)
        try simp only [Act.put, List.setIfInBounds_toArray, List.set_cons_zero, List.set_cons_succ, List.getElem_toArray, List.getElem_cons_succ, List.getElem_cons_zero]
        refine late_take (i := 7) (v := ?_) rfl (by kernel_rfl) (by kernel_rfl) (by kernel_rfl) (by kernel_rfl) (fun _ _ _ h => h) (Or.inl ⟨by rfl, ?_⟩) (by assumption) ?_
        rotate_left 1
        · (intro w' hSw; (try dsimp only at hSw); go_simp; try with_reducible rfl)
        try simp only [Act.put, List.setIfInBounds_toArray, List.set_cons_zero, List.set_cons_succ, List.getElem_toArray, List.getElem_cons_succ, List.getElem_cons_zero]
        refine late_take (i := 8) (v := ?_) rfl (by kernel_rfl) (by kernel_rfl) (by kernel_rfl) (by kernel_rfl) (fun _ _ _ h => h) (Or.inl ⟨by rfl, ?_⟩) (by assumption) ?_
        rotate_left 1
        · (intro w' hSw; (try dsimp only at hSw); go_simp; try with_reducible rfl)
        try simp only [Act.put, List.setIfInBounds_toArray, List.set_cons_zero, List.set_cons_succ, List.getElem_toArray, List.getElem_cons_succ, List.getElem_cons_zero]
        refine late_take (i := 9) (v := ?_) rfl (by kernel_rfl) (by kernel_rfl) (by kernel_rfl) (by kernel_rfl) (fun _ _ _ h => h) (Or.inl ⟨by rfl, ?_⟩) (by assumption) ?_
        rotate_left 1
        · (intro w' hSw; (try dsimp only at hSw); go_simp; try with_reducible rfl)
        try simp only [Act.put, List.setIfInBounds_toArray, List.set_cons_zero, List.set_cons_succ, List.getElem_toArray, List.getElem_cons_succ, List.getElem_cons_zero]
        refine late_one (i := 10) (by kernel_rfl) rfl (fun K hK => ?_)
        go_simp
        refine hK.out _ _ (by assumption) (fun _ => ?_)
        try simp only [Act.put, List.setIfInBounds_toArray, List.set_cons_zero, List.set_cons_succ, List.getElem_toArray, List.getElem_cons_succ, List.getElem_cons_zero]
        refine late_take (i := 11) (v := ?_) rfl (by kernel_rfl) (by kernel_rfl) (by kernel_rfl) (by kernel_rfl) (fun _ _ _ h => h) (Or.inl ⟨by rfl, ?_⟩) (by assumption) ?_
        rotate_left 1
        · (intro w' hSw; (try dsimp only at hSw); go_simp; try with_reducible rfl)
        try simp only [Act.put, List.setIfInBounds_toArray, List.set_cons_zero, List.set_cons_succ, List.getElem_toArray, List.getElem_cons_succ, List.getElem_cons_zero]
        refine late_last (by kernel_rfl) rfl (by kernel_rfl) (fun K hK => ?_)
        go_simp
        refine hK.out _ _ ?_
        try simp only [Act.put, List.setIfInBounds_toArray, List.set_cons_zero, List.set_cons_succ, List.getElem_toArray, List.getElem_cons_succ, List.getElem_cons_zero]
        repeat go_step
        go_meet
        exact z7_putT (D.out.next (Below.refl _ _).drew) HL.out _ _
      · go_wp2
        go_meet
        exact z7_putO D.out HL.out _ _
  case rest =>
    clear D1
    obtain ⟨a1, c1, a2, c2, a3, c3, T, O, P, hco, hcs, hq, hl30⟩ := hcut
    have x0 := hcs.1
    have x1 := hcs.2.1
    have x2 := hcs.2.2
    have hs := hco.2.size
    have q0 := (hco.2.cell (p := ⟨w0.heap.size, 0, none⟩) (by simp only; omega) (by simp only; omega)).trans r0
    have q1 := (hco.2.cell (p := ⟨w0.heap.size, 1, none⟩) (by simp only; omega) (by simp only; omega)).trans r1
    have q2 := (hco.2.cell (p := ⟨w0.heap.size, 2, none⟩) (by simp only; omega) (by simp only; omega)).trans r2
    have qf := fun i => (hco.2.frozen (p := ⟨w0.heap.size, i, none⟩) (by simp only; omega) (by simp only; omega)).trans (rf i)
    have HX : Hid ((Cur B a0 len cap b (((wc.setCell ⟨w0.heap.size, 0, none⟩ (.slice a1 T.length c1)).setCell ⟨w0.heap.size, 1, none⟩ (.slice a2 O.length c2)).setCell ⟨w0.heap.size, 2, none⟩ (.slice a3 P.length c3)) ∧ Only b w0 (((wc.setCell ⟨w0.heap.size, 0, none⟩ (.slice a1 T.length c1)).setCell ⟨w0.heap.size, 1, none⟩ (.slice a2 O.length c2)).setCell ⟨w0.heap.size, 2, none⟩ (.slice a3 P.length c3))) ∧ (QR w0.heap.size (((wc.setCell ⟨w0.heap.size, 0, none⟩ (.slice a1 T.length c1)).setCell ⟨w0.heap.size, 1, none⟩ (.slice a2 O.length c2)).setCell ⟨w0.heap.size, 2, none⟩ (.slice a3 P.length c3)) a1 T ∧ QR w0.heap.size (((wc.setCell ⟨w0.heap.size, 0, none⟩ (.slice a1 T.length c1)).setCell ⟨w0.heap.size, 1, none⟩ (.slice a2 O.length c2)).setCell ⟨w0.heap.size, 2, none⟩ (.slice a3 P.length c3)) a2 O ∧ QR w0.heap.size (((wc.setCell ⟨w0.heap.size, 0, none⟩ (.slice a1 T.length c1)).setCell ⟨w0.heap.size, 1, none⟩ (.slice a2 O.length c2)).setCell ⟨w0.heap.size, 2, none⟩ (.slice a3 P.length c3)) a3 P)) := by
      have hB : Below w0.heap.size wc (((wc.setCell ⟨w0.heap.size, 0, none⟩ (.slice a1 T.length c1)).setCell ⟨w0.heap.size, 1, none⟩ (.slice a2 O.length c2)).setCell ⟨w0.heap.size, 2, none⟩ (.slice a3 P.length c3)) := set3_below (Nat.le_refl _) (by omega) _ _ _
      have hO : Only w0.heap.size wc (((wc.setCell ⟨w0.heap.size, 0, none⟩ (.slice a1 T.length c1)).setCell ⟨w0.heap.size, 1, none⟩ (.slice a2 O.length c2)).setCell ⟨w0.heap.size, 2, none⟩ (.slice a3 P.length c3)) := (((Only.refl w0.heap.size wc).setCell (p := ⟨w0.heap.size, 0, none⟩) rfl _).setCell (p := ⟨w0.heap.size, 1, none⟩) rfl _).setCell (p := ⟨w0.heap.size, 2, none⟩) rfl _
      exact ⟨⟨hco.1.under hB hlt, only_low (ow.trans hco.2) hB⟩, (hq.1.only hO (by omega)).lower (by omega), (hq.2.1.only hO (by omega)).lower (by omega), (hq.2.2.only hO (by omega)).lower (by omega)⟩
    clear hcs hq hco
    go_wp2
    refine bodyPost_ret (results_one rfl _ _ _ [.slice a1 T.length c1, .slice a2 O.length c2, .slice a3 P.length c3] rfl (set_three (u0 := .slice none 0 0) (u1 := .slice none 0 0) (u2 := .slice none 0 0) _ _ _ q0 q1 q2) Try.underlying64 rfl (by kernel_rfl)) rfl ?_
    exact ⟨a1, c1, a2, c2, a3, c3, T, O, P, rfl, HX.out.1, HX.out.2, hl30⟩
end Go.Proofs.Ytmophpbfaonfmac
