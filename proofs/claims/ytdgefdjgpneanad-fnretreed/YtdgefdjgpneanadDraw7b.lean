/- The draws of a Lend: spec.l7Draw. -/
import Derived.Test.YtdgefdjgpneanadDraw7
import Derived.Deep.DeepCutAuto
import Derived.Deep.RegionHeld3
namespace Go.Proofs.Ytdgefdjgpneanad
open Go.ChangeShapes Go.WideShapes Go.ChangeAt Go.RowKit
set_option maxRecDepth 100000
set_option linter.unusedVariables false
set_option linter.unusedSimpArgs false

def L7Post (B : Nat) (a0 : Option Addr) (len cap b : Nat) (w : World) (e : Ending) (w' : World) : Prop := ∃ a1 c1 a2 c2 a3 c3 T O P, e = .returned (lendV a1 (List.length T) c1 a2 (List.length O) c2 a3 (List.length P) c3) ∧ Cur B a0 len cap b w' ∧ Only b w w' ∧ LV w' w.heap.size (.slice a1 T.length c1) (.slice a2 O.length c2) (.slice a3 P.length c3) T O P ∧ Ln T O P
/-- A Lend in the variable bl, whatever its numbers. -/
def D7 (B : Nat) (a0 : Option Addr) (len cap b : Nat) (w wd : World) (bl : Nat) (T O P : List Q4) : Prop := ∃ a1 c1 a2 c2 a3 c3, DL B a0 len cap b w wd bl (.slice a1 T.length c1) (.slice a2 O.length c2) (.slice a3 P.length c3) T O P
theorem lv_len {w : World} {lo : Nat} {a1 : Option Addr} {n1 c1 : Nat} {a2 : Option Addr} {n2 c2 : Nat} {a3 : Option Addr} {n3 c3 : Nat} {T O P : List Q4} (h : LV w lo (.slice a1 n1 c1) (.slice a2 n2 c2) (.slice a3 n3 c3) T O P) : n1 = T.length ∧ n2 = O.length ∧ n3 = P.length := ⟨h.t.quad.1, h.o.quad.1, h.p.quad.1⟩
theorem iv_row {w : World} {lo n c : Nat} {a : Option Addr} {xs : List Int} (h : IV w lo (.slice a n c) xs) (hp : 1 ≤ xs.length) : ∃ g, a = some ⟨g, 0, none⟩ ∧ n = xs.length ∧ lo ≤ g ∧ g < w.heap.size := by
  rcases h with ⟨g, cap, e, h1, h2, _⟩ | ⟨_, rfl⟩
  · injection e with e1 e2 e3
    exact ⟨g, e1, e2, h1, h2⟩
  · simp at hp
theorem iv_cell {w : World} {lo g n c : Nat} {xs : List Int} (h : IV w lo (.slice (some ⟨g, 0, none⟩) n c) xs) : ∀ j, j < xs.length → w.cell? ⟨g, j, none⟩ = some (.int .i64 (xs.getD j 0)) := by
  intro j hj
  rcases h with ⟨g', cap, e, _, _, f, _⟩ | ⟨e, rfl⟩
  · injection e with e1 e2 e3
    injection e1 with e1
    injection e1 with e1
    subst e1
    rw [f.got j hj hj]
    simp [List.getD, List.getElem?_eq_getElem hj]
  · simp at hj
theorem IV.only {w w' : World} {lo b : Nat} {v : Value} {xs : List Int} (h : IV w lo v xs) (o : Only b w w') (hb : b < lo) : IV w' lo v xs :=
  h.onlyO (o := some b) ⟨o.os, o.tape, o.output, o.size, fun k hk hn => o.block k hk (fun e => hn (by rw [e]))⟩ (fun g hg e => by have := (h.own hg).1; have := Option.some.inj e; omega)
theorem IV.set {w : World} {lo b : Nat} {v : Value} {xs : List Int} (h : IV w lo v xs) (hb : b < lo) (i : Nat) (z : Value) : IV (w.setCell ⟨b, i, none⟩ z) lo v xs :=
  h.only ((Only.refl b w).setCell rfl z) hb
theorem out7 {B : Nat} {a0 : Option Addr} {len cap b : Nat} {w0 w wr : World} {bl : Nat} {s1 s2 s3 : Value} {T O P : List Q4} (d : DL B a0 len cap b w wr bl s1 s2 s3 T O P) (ow : Only b w0 w) (zw : w.heap.size = w0.heap.size + 1) (hb : b < w0.heap.size) :
    Cur B a0 len cap b (((wr.setCell ⟨w0.heap.size, 0, none⟩ s1).setCell ⟨w0.heap.size, 1, none⟩ s2).setCell ⟨w0.heap.size, 2, none⟩ s3) ∧ Only b w0 (((wr.setCell ⟨w0.heap.size, 0, none⟩ s1).setCell ⟨w0.heap.size, 1, none⟩ s2).setCell ⟨w0.heap.size, 2, none⟩ s3) ∧ LV (((wr.setCell ⟨w0.heap.size, 0, none⟩ s1).setCell ⟨w0.heap.size, 1, none⟩ s2).setCell ⟨w0.heap.size, 2, none⟩ s3) w0.heap.size s1 s2 s3 T O P := by
  have hs := d.only.size
  have hB : Below w0.heap.size wr (((wr.setCell ⟨w0.heap.size, 0, none⟩ s1).setCell ⟨w0.heap.size, 1, none⟩ s2).setCell ⟨w0.heap.size, 2, none⟩ s3) := set3_below (Nat.le_refl _) (by omega) _ _ _
  have hl : w0.heap.size < w.heap.size := by omega
  exact ⟨d.cur.under hB hb, only_low (ow.trans d.only) hB, (((d.lv.set hl _ _).set hl _ _).set hl _ _).lower (by omega)⟩
/-- What Spend told, in a variable bx of its own. -/
structure X7 (bl : Nat) (wd : World) (bx : Nat) (s1 s2 s3 : Value) (T O P : List Q4) : Prop where
  lt : bl < bx
  hi : bx < wd.heap.size
  c0 : wd.cell? ⟨bx, 0, none⟩ = some s1
  c1 : wd.cell? ⟨bx, 1, none⟩ = some s2
  c2 : wd.cell? ⟨bx, 2, none⟩ = some s3
  lv : ∃ lo, bl < lo ∧ LV wd lo s1 s2 s3 T O P
  ln : 0 < T.length → Ln T O P
  l30 : T.length ≤ 30
theorem X7.put {bl bx lo : Nat} {v : World} {s1 s2 s3 u0 u1 u2 : Value} {T O P : List Q4} (hl : bl < bx) (hb : bx < lo) (hs : lo ≤ v.heap.size) (lv : LV v lo s1 s2 s3 T O P) (e0 : v.cell? ⟨bx, 0, none⟩ = some u0) (e1 : v.cell? ⟨bx, 1, none⟩ = some u1) (e2 : v.cell? ⟨bx, 2, none⟩ = some u2) (ln : 0 < T.length → Ln T O P) (l30 : T.length ≤ 30) :
    X7 bl (((v.setCell ⟨bx, 0, none⟩ s1).setCell ⟨bx, 1, none⟩ s2).setCell ⟨bx, 2, none⟩ s3) bx s1 s2 s3 T O P := by
  obtain ⟨x0, x1, x2⟩ := cells3 e0 e1 e2 s1 s2 s3
  exact ⟨hl, by simp; omega, x0, x1, x2, ⟨lo, by omega, ((lv.set hb _ _).set hb _ _).set hb _ _⟩, ln, l30⟩
theorem X7.new {bl lo : Nat} {v : World} {s1 s2 s3 : Value} {T O P : List Q4} (hl : bl < lo) (hb : bl < v.heap.size) (lv : LV v lo s1 s2 s3 T O P) (ln : 0 < T.length → Ln T O P) (l30 : T.length ≤ 30) :
    X7 bl (v.alloc (.cells #[s1, s2, s3] 27)) v.heap.size s1 s2 s3 T O P :=
  ⟨hb, by simp, by go_simp, by go_simp, by go_simp, ⟨lo, hl, lv.next (new_below _ _)⟩, ln, l30⟩
theorem DL.far {B : Nat} {a0 : Option Addr} {len cap b : Nat} {w v : World} {bl bx : Nat} {s1 s2 s3 : Value} {T O P : List Q4} (d : DL B a0 len cap b w v bl s1 s2 s3 T O P) (hx : w.heap.size ≤ bx) (hn : bx ≠ bl) (hr : ¬ inL s1 s2 s3 bx) (p q r : Value) :
    DL B a0 len cap b w (((v.setCell ⟨bx, 0, none⟩ p).setCell ⟨bx, 1, none⟩ q).setCell ⟨bx, 2, none⟩ r) bl s1 s2 s3 T O P := by
  have hB : Below w.heap.size v (((v.setCell ⟨bx, 0, none⟩ p).setCell ⟨bx, 1, none⟩ q).setCell ⟨bx, 2, none⟩ r) := set3_below hx d.only.size _ _ _
  have hO : Only bx v (((v.setCell ⟨bx, 0, none⟩ p).setCell ⟨bx, 1, none⟩ q).setCell ⟨bx, 2, none⟩ r) := (((Only.refl bx v).setCell rfl p).setCell rfl q).setCell rfl r
  refine ⟨d.cur.under hB d.lt, only_low d.only hB, d.lt, d.bl0, by simpa using d.bl1, (hO.cell (p := ⟨bl, 0, none⟩) d.bl1 (Ne.symm hn)).trans d.c0, (hO.cell (p := ⟨bl, 1, none⟩) d.bl1 (Ne.symm hn)).trans d.c1, (hO.cell (p := ⟨bl, 2, none⟩) d.bl1 (Ne.symm hn)).trans d.c2, fun i => (hO.frozen (p := ⟨bl, i, none⟩) d.bl1 (Ne.symm hn)).trans (d.fr i), d.lv.onlyP hO.onlyP (fun g hg e => hr (by subst e; exact .inl hg)) (fun g hg e => hr (by subst e; exact .inr (.inl hg))) (fun g hg e => hr (by subst e; exact .inr (.inr hg))), d.ap⟩
theorem IV.far {w : World} {lo g n c bx : Nat} {xs : List Int} (h : IV w lo (.slice (some ⟨g, 0, none⟩) n c) xs) (hn : bx ≠ g) (p q r : Value) : IV (((w.setCell ⟨bx, 0, none⟩ p).setCell ⟨bx, 1, none⟩ q).setCell ⟨bx, 2, none⟩ r) lo (.slice (some ⟨g, 0, none⟩) n c) xs := by
  have hO : Only bx w (((w.setCell ⟨bx, 0, none⟩ p).setCell ⟨bx, 1, none⟩ q).setCell ⟨bx, 2, none⟩ r) := (((Only.refl bx w).setCell rfl p).setCell rfl q).setCell rfl r
  refine h.onlyO (o := some bx) ⟨hO.os, hO.tape, hO.output, hO.size, fun k hk hk' => hO.block k hk (fun e => hk' (by rw [e]))⟩ (fun g' hg e => ?_)
  have e1 : g = g' := by injection hg
  have e2 := Option.some.inj e
  omega
set_option maxHeartbeats 8000000 in
theorem l7Draw_acc {B : Nat} {a0 : Option Addr} {len cap b : Nat} {w0 : World} (k : Cur B a0 len cap b w0) :
    Calls Try.prog 116 #[.pointer (some ⟨b, 0, none⟩)] w0 (L7Post B a0 len cap b w0) := by
  have hlt := k.hi
  obtain ⟨w, hw, kw, ow, zw, r0, r1, r2, rf⟩ : ∃ w, w0.alloc (.cells #[.slice none 0 0, .slice none 0 0, .slice none 0 0] 27) = w ∧ Cur B a0 len cap b w ∧ Only b w0 w ∧ w.heap.size = w0.heap.size + 1 ∧ w.cell? ⟨w0.heap.size, 0, none⟩ = some (.slice none 0 0) ∧ w.cell? ⟨w0.heap.size, 1, none⟩ = some (.slice none 0 0) ∧ w.cell? ⟨w0.heap.size, 2, none⟩ = some (.slice none 0 0) ∧ ∀ i, w.frozen? ⟨w0.heap.size, i, none⟩ = false :=
    ⟨_, rfl, k.alloc _, (Only.refl _ _).alloc _, by simp, by go_simp, by go_simp, by go_simp, fun i => by go_simp⟩
  go_enter Try.func116, Try.ntmps116
  go_upto_region 1 with (fail)
  clear hw
  have hbw : b < w.heap.size := kw.hi
  go_upto_if 18 with (first
    | (go_at_call 114; refine (l6Draw_acc kw).mono ?_; rintro e wA ⟨aA, nA, cA, TA, rfl, dA, hTA⟩; obtain ⟨gA, c0A, evA, _, _⟩ := own_some dA.own hTA.1; injection evA with evA1 evA2 evA3; subst evA1 evA2 evA3; have DA : Hid (TSt B a0 len cap b w wA (.slice (some ⟨gA, 0, none⟩) TA.length cA) TA) := dA; clear dA)
    | (go_at_call 62; refine (below_acc _ DA.out.cur (Only.refl _ _) (by omega) (by omega)).mono ?_; rintro e wB ⟨xB, rfl, hxB, kB, oB⟩; have DB : Hid (TSt B a0 len cap b w wB (.slice (some ⟨gA, 0, none⟩) TA.length cA) TA) := DA.out.draw oB kB)
    | (go_at_call 145; refine (specNewLend_any cA xB (own_quad DB.out.own)).mono ?_; rintro e wC ⟨a1, n1, c1, a2, n2, c2, a3, n3, c3, rfl, lvC, hbC⟩; obtain ⟨rfl, rfl, rfl⟩ := lv_len lvC))
  have zB := DB.out.only.size
  have D0 : Hid (DL B a0 len cap b w (wC.alloc (.cells #[.slice a1 (newT TA xB).length c1, .slice a2 (newO TA xB).length c2, .slice a3 (newP TA xB).length c3] 27)) wC.heap.size (.slice a1 (newT TA xB).length c1) (.slice a2 (newO TA xB).length c2) (.slice a3 (newP TA xB).length c3) (newT TA xB) (newO TA xB) (newP TA xB)) :=
    DL.new (DB.out.cur.mono hbC) (DB.out.only.trans (Only.of_below hbC)) hbw (lvC.lower zB)
  have HN : Hid (newB TA xB = true → treeCode (newT TA xB) = 0 ∧ Ln (newT TA xB) (newO TA xB) (newP TA xB)) := fun h => new_ln h
  clear lvC hbC zB DB DA oB kB hxB
  obtain ⟨T1, hT1⟩ : ∃ T1, newT TA xB = T1 := ⟨_, rfl⟩
  obtain ⟨O1, hO1⟩ : ∃ O1, newO TA xB = O1 := ⟨_, rfl⟩
  obtain ⟨P1, hP1⟩ : ∃ P1, newP TA xB = P1 := ⟨_, rfl⟩
  obtain ⟨f, hf⟩ : ∃ f, newB TA xB = f := ⟨_, rfl⟩
  obtain ⟨v, hv⟩ : ∃ v, wC.alloc (.cells #[.slice a1 (newT TA xB).length c1, .slice a2 (newO TA xB).length c2, .slice a3 (newP TA xB).length c3] 27) = v := ⟨_, rfl⟩
  obtain ⟨bl, hbl⟩ : ∃ bl, wC.heap.size = bl := ⟨_, rfl⟩
  rw [hv, hbl] at D0 ⊢
  rw [hT1, hO1, hP1] at D0 HN ⊢
  rw [hf] at HN ⊢
  clear hv hbl hT1 hO1 hP1 hf
  go_cut [4] from 9 to 24 (fun _ wd => ∃ T O P, treeCode T = 0 ∧ Ln T O P ∧ D7 B a0 len cap b w wd bl T O P)
  case first =>
    cases f
    · have nb := new_below v (.cells #[.int .i64 (-1), .int .i64 5000, .int .i64 5000, .int .i64 1500] 34)
      have hq : Quad _ (v.alloc (.cells #[.int .i64 (-1), .int .i64 5000, .int .i64 5000, .int .i64 1500] 34)) (some ⟨v.heap.size, 0, none⟩) [((-1 : Int), (5000 : Int), (5000 : Int), (1500 : Int))] := own_quad (own_fresh v 0 (by omega) (-1) 5000 5000 1500)
      have hbl1 := D0.out.bl1
      have c0 := D0.out.c0
      have c1' := D0.out.c1
      have c2' := D0.out.c2
      have fr := D0.out.fr
      go_wp2_with (first
        | (go_at_call 145; refine (specNewLend_any 1 0 hq).mono ?_; rintro e wE ⟨a4, n4, c4, a5, n5, c5, a6, n6, c6, rfl, lvE, hbE⟩; obtain ⟨rfl, rfl, rfl⟩ := lv_len lvE; have hbv := below_two nb hbE; have k0 := (below_cells hbv _ _ hbl1).trans c0; have k1 := (below_cells hbv _ _ hbl1).trans c1'; have k2 := (below_cells hbv _ _ hbl1).trans c2'; have kf := fun i => (below_frozens hbv bl i hbl1).trans (fr i)))
      go_meet
      have hn := new_ln new_one
      exact ⟨_, _, _, hn.1, hn.2, _, _, _, _, _, _, D0.out.over hbv (by simp; omega) lvE⟩
    · have HN' : Hid (treeCode T1 = 0 ∧ Ln T1 O1 P1) := HN.out rfl
      clear HN
      go_wp2
      go_meet
      exact ⟨_, _, _, HN'.out.1, HN'.out.2, _, _, _, _, _, _, D0.out⟩
  case rest =>
    clear D0 HN
    obtain ⟨T, O, P, hcode, hln, a1, c1, a2, c2, a3, c3, d0⟩ := hcut
    have D : Hid (DL B a0 len cap b w wc bl (.slice a1 T.length c1) (.slice a2 O.length c2) (.slice a3 P.length c3) T O P) := d0
    have HL : Hid (Ln T O P) := hln
    have hv1 := leaves_some hcode
    have hT30 : T.length ≤ 30 := hln.2.1
    have c0 := d0.c0
    clear hln d0
    go_upto_region 5 with (first
      | (go_at_call 97; refine (specLeaves_any c1 D.out.lv.t.quad.2 (by omega)).mono ?_; rintro e w1 ⟨aV, nV, cV, rfl, ivV, hb1⟩))
    obtain ⟨V, hV⟩ : ∃ V, leavesOf T = V := ⟨_, rfl⟩
    have hv30 := leavesOf_length T
    rw [hV] at hv1 hv30 ivV
    clear hV
    obtain ⟨gV, rfl, rfl, hgV0, hgV1⟩ := iv_row ivV hv1
    have D1 : Hid (D7 B a0 len cap b w w1 bl T O P) := ⟨_, _, _, _, _, _, D.out.next hb1⟩
    have I1 : Hid (IV w1 wc.heap.size (.slice (some ⟨gV, 0, none⟩) V.length cV) V) := ivV
    have hblc := D.out.bl1
    have hbc : b < wc.heap.size := D.out.cur.hi
    have hbl0 := D.out.bl0
    obtain ⟨lo, hlo⟩ : ∃ lo, wc.heap.size = lo := ⟨_, rfl⟩
    rw [hlo] at I1 hblc hbc hgV0
    have K1 : Hid (Cur B a0 len cap b w1) := D.out.cur.mono hb1
    have hVi : (V.length : Int) ≤ 30 := by omega
    have hVj : (1 : Int) ≤ (V.length : Int) := by omega
    clear D hb1 ivV hlo hcode c0 hT30
    go_wp2_with (first
      | (go_at_call 62; refine (below_acc _ K1.out (Only.refl _ _) (by omega) (by omega)).mono ?_; rintro e w2 ⟨x2, rfl, hx2, k2, o2⟩; have D2 : Hid (D7 B a0 len cap b w w2 bl T O P) := (by obtain ⟨_, _, _, _, _, _, d⟩ := D1.out; exact ⟨_, _, _, _, _, _, d.draw o2 k2⟩); have I2 : Hid (IV w2 lo (.slice (some ⟨gV, 0, none⟩) V.length cV) V) := I1.out.only o2 hbc))
    go_loopw [6, 7, 8] (fun s _ _ wr => ∃ (j : Nat) (T O P : List Q4), s = .int .i64 j ∧ j ≤ 8 ∧ Hid (Ln T O P) ∧ Hid (D7 B a0 len cap b w wr bl T O P) ∧ Hid (IV wr lo (.slice (some ⟨gV, 0, none⟩) V.length cV) V)) (fun s _ _ _ => (intOf s).toNat)
    case atStart => exact ⟨x2.toNat, T, O, P, by rw [Int.toNat_of_nonneg hx2.1], by omega, HL, D2, I2⟩
    case round =>
      clear D1 D2 I1 I2 K1 k2 o2 HL hx2
      obtain ⟨j, T, O, P, rfl, hj8, HL, DH, I⟩ := hrel
      obtain ⟨a1, c1, a2, c2, a3, c3, d⟩ := DH.out
      have hln := HL.out
      obtain ⟨gO, dO, eO, hgO0, hgO1, fO, _⟩ := qv_row d.lv.o (by have := hln.1; have := hln.2.2.1; omega)
      injection eO with eO1 eO2 eO3
      subst eO1 eO3
      have D : Hid (DL B a0 len cap b w wr bl (.slice a1 T.length c1) (.slice (some ⟨gO, 0, none⟩) O.length (dO + 1)) (.slice a3 P.length c3) T O P) := d
      have c0 := d.c0
      have c1' := d.c1
      have c2' := d.c2
      have hO0 : 0 < O.length := by have := hln.1; have := hln.2.2.1; omega
      have hO1 : (0 : Int) < (O.length : Int) := by omega
      obtain ⟨t, ht⟩ : ∃ t, O[0].2.2.2 = t := ⟨_, rfl⟩
      have HT : Hid (O[0].2.2.2 = t) := ht
      clear ht DH eO2 fO
      cases j with
      | zero =>
        have q0 := (d.only.cell (p := ⟨w0.heap.size, 0, none⟩) (by simp only; omega) (by simp only; omega)).trans r0
        have q1 := (d.only.cell (p := ⟨w0.heap.size, 1, none⟩) (by simp only; omega) (by simp only; omega)).trans r1
        have q2 := (d.only.cell (p := ⟨w0.heap.size, 2, none⟩) (by simp only; omega) (by simp only; omega)).trans r2
        have qf := fun i => (d.only.frozen (p := ⟨w0.heap.size, i, none⟩) (by simp only; omega) (by simp only; omega)).trans (rf i)
        have ho := out7 d ow zw hlt
        have HO : Hid _ := ho
        clear d ho
        go_wp2
        refine bodyPost_ret (results_one rfl _ _ _ [.slice a1 T.length c1, .slice (some ⟨gO, 0, none⟩) O.length (dO + 1), .slice a3 P.length c3] rfl (set_three (u0 := .slice none 0 0) (u1 := .slice none 0 0) (u2 := .slice none 0 0) _ _ _ q0 q1 q2) Try.underlying27 rfl (by kernel_rfl)) rfl ?_
        exact ⟨_, _, _, _, _, _, T, O, P, rfl, HO.out.1, HO.out.2.1, HO.out.2.2, HL.out⟩
      | succ j =>
        have hj0 : (0 : Int) < (j : Int) + 1 := by omega
        have hj7 : (j : Int) ≤ 7 := by omega
        have HSG : Hid (∀ W, DL B a0 len cap b w W bl (.slice a1 T.length c1) (.slice (some ⟨gO, 0, none⟩) O.length (dO + 1)) (.slice a3 P.length c3) T O P → IV W lo (.slice (some ⟨gV, 0, none⟩) V.length cV) V →
            W.cell? ⟨bl, 0, none⟩ = some (.slice a1 T.length c1) ∧ W.cell? ⟨bl, 1, none⟩ = some (.slice (some ⟨gO, 0, none⟩) O.length (dO + 1)) ∧ W.cell? ⟨bl, 2, none⟩ = some (.slice a3 P.length c3) ∧ W.cell? ⟨gO, 3, none⟩ = some (.int .i64 t) ∧ ∀ j, j < V.length → W.cell? ⟨gV, j, none⟩ = some (.int .i64 (V.getD j 0))) := fun W d i => by
          obtain ⟨gO', _, eO, _, _, fO, _⟩ := qv_row d.lv.o hO0
          injection eO with eO1 _ _
          injection eO1 with eO1
          injection eO1 with eO1
          subst eO1
          have h3 := (fO.got 0 hO0 hO0).2.2.2
          rw [HT.out] at h3
          exact ⟨d.c0, d.c1, d.c2, h3, iv_cell i⟩
        have H0 : Hid (∀ W, Below wr.heap.size wr W → W.cell? ⟨bl, 0, none⟩ = some (.slice a1 T.length c1) ∧ W.cell? ⟨bl, 1, none⟩ = some (.slice (some ⟨gO, 0, none⟩) O.length (dO + 1)) ∧ W.cell? ⟨bl, 2, none⟩ = some (.slice a3 P.length c3) ∧ W.cell? ⟨gO, 3, none⟩ = some (.int .i64 t) ∧ ∀ j, j < V.length → W.cell? ⟨gV, j, none⟩ = some (.int .i64 (V.getD j 0))) := fun W h => HSG.out W (D.out.next h) (I.out.next h)
        clear d hln
        go_upto_region 8 with (fail)
        -- ROUND
        have D0 : Hid (DL B a0 len cap b w wr bl (.slice a1 T.length c1) (.slice (some ⟨gO, 0, none⟩) O.length (dO + 1)) (.slice a3 P.length c3) T O P) := D
        have I0 : Hid (IV wr lo (.slice (some ⟨gV, 0, none⟩) V.length cV) V) := I
        have hbr : b < wr.heap.size := D.out.cur.hi
        have hgVr : gV < wr.heap.size := (I.out.own (g := gV) rfl).2
        have hblr : bl < wr.heap.size := D.out.bl1
        have HRW : Hid (∀ bx, wr.heap.size ≤ bx → ¬ inL (.slice a1 T.length c1) (.slice (some ⟨gO, 0, none⟩) O.length (dO + 1)) (.slice a3 P.length c3) bx) := fun bx h e => (by have := (D.out.lv.lo e).2; omega)
        have HST : Hid (∀ (W : World) (bx : Nat) (p q r : Value), wr.heap.size ≤ bx → (W.cell? ⟨bl, 0, none⟩ = some (.slice a1 T.length c1) ∧ W.cell? ⟨bl, 1, none⟩ = some (.slice (some ⟨gO, 0, none⟩) O.length (dO + 1)) ∧ W.cell? ⟨bl, 2, none⟩ = some (.slice a3 P.length c3) ∧ W.cell? ⟨gO, 3, none⟩ = some (.int .i64 t) ∧ ∀ j, j < V.length → W.cell? ⟨gV, j, none⟩ = some (.int .i64 (V.getD j 0))) → ((((W.setCell ⟨bx, 0, none⟩ p).setCell ⟨bx, 1, none⟩ q).setCell ⟨bx, 2, none⟩ r).cell? ⟨bl, 0, none⟩ = some (.slice a1 T.length c1) ∧ (((W.setCell ⟨bx, 0, none⟩ p).setCell ⟨bx, 1, none⟩ q).setCell ⟨bx, 2, none⟩ r).cell? ⟨bl, 1, none⟩ = some (.slice (some ⟨gO, 0, none⟩) O.length (dO + 1)) ∧ (((W.setCell ⟨bx, 0, none⟩ p).setCell ⟨bx, 1, none⟩ q).setCell ⟨bx, 2, none⟩ r).cell? ⟨bl, 2, none⟩ = some (.slice a3 P.length c3) ∧ (((W.setCell ⟨bx, 0, none⟩ p).setCell ⟨bx, 1, none⟩ q).setCell ⟨bx, 2, none⟩ r).cell? ⟨gO, 3, none⟩ = some (.int .i64 t) ∧ ∀ j, j < V.length → (((W.setCell ⟨bx, 0, none⟩ p).setCell ⟨bx, 1, none⟩ q).setCell ⟨bx, 2, none⟩ r).cell? ⟨gV, j, none⟩ = some (.int .i64 (V.getD j 0)))) := fun W bx p q r hbx h =>
          ⟨(set_far (show bx ≠ bl by omega)).trans ((set_far (show bx ≠ bl by omega)).trans ((set_far (show bx ≠ bl by omega)).trans h.1)), (set_far (show bx ≠ bl by omega)).trans ((set_far (show bx ≠ bl by omega)).trans ((set_far (show bx ≠ bl by omega)).trans h.2.1)), (set_far (show bx ≠ bl by omega)).trans ((set_far (show bx ≠ bl by omega)).trans ((set_far (show bx ≠ bl by omega)).trans h.2.2.1)), (set_far (show bx ≠ gO by omega)).trans ((set_far (show bx ≠ gO by omega)).trans ((set_far (show bx ≠ gO by omega)).trans h.2.2.2.1)), fun j hj => (set_far (show bx ≠ gV by omega)).trans ((set_far (show bx ≠ gV by omega)).trans ((set_far (show bx ≠ gV by omega)).trans (h.2.2.2.2 j hj)))⟩
        go_cut [7, 8] from 34 to 59 (fun v7 _ wd => ∃ bx a4 c4 a5 c5 a6 c6 T' O' P', v7 = .pointer (some ⟨bx, 0, none⟩) ∧ X7 bl wd bx (.slice a4 (List.length T') c4) (.slice a5 (List.length O') c5) (.slice a6 (List.length P') c6) T' O' P' ∧ DL B a0 len cap b w wd bl (.slice a1 T.length c1) (.slice (some ⟨gO, 0, none⟩) O.length (dO + 1)) (.slice a3 P.length c3) T O P ∧ IV wd lo (.slice (some ⟨gV, 0, none⟩) V.length cV) V)
        case first =>
          go_region_held3 (fun w' => w'.cell? ⟨bl, 0, none⟩ = some (.slice a1 T.length c1) ∧ w'.cell? ⟨bl, 1, none⟩ = some (.slice (some ⟨gO, 0, none⟩) O.length (dO + 1)) ∧ w'.cell? ⟨bl, 2, none⟩ = some (.slice a3 P.length c3) ∧ w'.cell? ⟨gO, 3, none⟩ = some (.int .i64 t) ∧ ∀ j, j < V.length → w'.cell? ⟨gV, j, none⟩ = some (.int .i64 (V.getD j 0))) (first | (refine H5.out _ ?_; go_grown; done) | (refine H4.out _ ?_; go_grown; done) | (refine H3.out _ ?_; go_grown; done) | (refine H2.out _ ?_; go_grown; done) | (refine H1.out _ ?_; go_grown; done) | (refine H0.out _ ?_; go_grown; done) | (refine HST.out _ _ _ _ _ ?_ (H5.out _ (Below.refl _ _)); omega))
            (first
              | (go_at_call 146; refine (specSpend_any c1 (dO + 1) c3 _ _ _ (D4.out.next (by go_grown)).lv.t.quad.2 (D4.out.next (by go_grown)).lv.o.quad.2 (D4.out.next (by go_grown)).lv.p.quad.2).mono ?_; rintro e v5 ⟨a4, n4, c4, a5, n5, c5, a6, n6, c6, rfl, lv5, hb5⟩; obtain ⟨rfl, rfl, rfl⟩ := lv_len lv5; have D5 : Hid (DL B a0 len cap b w v5 bl (.slice a1 T.length c1) (.slice (some ⟨gO, 0, none⟩) O.length (dO + 1)) (.slice a3 P.length c3) T O P) := (D4.out.next (by go_grown)).next hb5; have I5 : Hid (IV v5 lo (.slice (some ⟨gV, 0, none⟩) V.length cV) V) := (I4.out.next (by go_grown)).next hb5; have H5 : Hid (∀ W, Below v5.heap.size v5 W → W.cell? ⟨bl, 0, none⟩ = some (.slice a1 T.length c1) ∧ W.cell? ⟨bl, 1, none⟩ = some (.slice (some ⟨gO, 0, none⟩) O.length (dO + 1)) ∧ W.cell? ⟨bl, 2, none⟩ = some (.slice a3 P.length c3) ∧ W.cell? ⟨gO, 3, none⟩ = some (.int .i64 t) ∧ ∀ j, j < V.length → W.cell? ⟨gV, j, none⟩ = some (.int .i64 (V.getD j 0))) := fun W h => HSG.out W (D5.out.next h) (I5.out.next h); have m5 := below_cells hb5; have f5 := below_frozens hb5; have z5 := hb5.size; (try simp at z5); have y5 : wr.heap.size ≤ v5.heap.size := (by omega); (try (have t5_0 : wr.heap.size < v5.heap.size := (by omega))); (try (have t5_1 : v1.heap.size < v5.heap.size := (by omega))); (try (have t5_2 : v2.heap.size < v5.heap.size := (by omega))); (try (have t5_3 : v3.heap.size < v5.heap.size := (by omega))); (try (have t5_4 : v4.heap.size < v5.heap.size := (by omega))))
              | (go_at_call 62; have gq := D3; refine (below_acc 1500 (D3.out.next (by go_grown)).cur (Only.refl _ _) (by omega) (by omega)).mono ?_; rintro e v4 ⟨x4, rfl, hx4, k4, o4⟩; have D4 : Hid (DL B a0 len cap b w v4 bl (.slice a1 T.length c1) (.slice (some ⟨gO, 0, none⟩) O.length (dO + 1)) (.slice a3 P.length c3) T O P) := (D3.out.next (by go_grown)).draw o4 k4; have I4 : Hid (IV v4 lo (.slice (some ⟨gV, 0, none⟩) V.length cV) V) := (I3.out.next (by go_grown)).only o4 hbc; have H4 : Hid (∀ W, Below v4.heap.size v4 W → W.cell? ⟨bl, 0, none⟩ = some (.slice a1 T.length c1) ∧ W.cell? ⟨bl, 1, none⟩ = some (.slice (some ⟨gO, 0, none⟩) O.length (dO + 1)) ∧ W.cell? ⟨bl, 2, none⟩ = some (.slice a3 P.length c3) ∧ W.cell? ⟨gO, 3, none⟩ = some (.int .i64 t) ∧ ∀ j, j < V.length → W.cell? ⟨gV, j, none⟩ = some (.int .i64 (V.getD j 0))) := fun W h => HSG.out W (D4.out.next h) (I4.out.next h); have z4 := o4.size; (try simp at z4); have m4 := fun k o (h0 : wr.heap.size ≤ k) (h1 : k < _) => o4.cell (p := ⟨k, o, none⟩) h1 (by simp only; omega); have f4 := fun k o (h0 : wr.heap.size ≤ k) (h1 : k < _) => o4.frozen (p := ⟨k, o, none⟩) h1 (by simp only; omega); have y4 : wr.heap.size ≤ v4.heap.size := (by omega); (try (have t4_0 : wr.heap.size < v4.heap.size := (by omega))); (try (have t4_1 : v1.heap.size < v4.heap.size := (by omega))); (try (have t4_2 : v2.heap.size < v4.heap.size := (by omega))); (try (have t4_3 : v3.heap.size < v4.heap.size := (by omega))))
              | (go_at_call 62; have gq := D2; refine (below_acc 5000000 (D2.out.next (by go_grown)).cur (Only.refl _ _) (by omega) (by omega)).mono ?_; rintro e v3 ⟨x3, rfl, hx3, k3, o3⟩; have D3 : Hid (DL B a0 len cap b w v3 bl (.slice a1 T.length c1) (.slice (some ⟨gO, 0, none⟩) O.length (dO + 1)) (.slice a3 P.length c3) T O P) := (D2.out.next (by go_grown)).draw o3 k3; have I3 : Hid (IV v3 lo (.slice (some ⟨gV, 0, none⟩) V.length cV) V) := (I2.out.next (by go_grown)).only o3 hbc; have H3 : Hid (∀ W, Below v3.heap.size v3 W → W.cell? ⟨bl, 0, none⟩ = some (.slice a1 T.length c1) ∧ W.cell? ⟨bl, 1, none⟩ = some (.slice (some ⟨gO, 0, none⟩) O.length (dO + 1)) ∧ W.cell? ⟨bl, 2, none⟩ = some (.slice a3 P.length c3) ∧ W.cell? ⟨gO, 3, none⟩ = some (.int .i64 t) ∧ ∀ j, j < V.length → W.cell? ⟨gV, j, none⟩ = some (.int .i64 (V.getD j 0))) := fun W h => HSG.out W (D3.out.next h) (I3.out.next h); have z3 := o3.size; (try simp at z3); have m3 := fun k o (h0 : wr.heap.size ≤ k) (h1 : k < _) => o3.cell (p := ⟨k, o, none⟩) h1 (by simp only; omega); have f3 := fun k o (h0 : wr.heap.size ≤ k) (h1 : k < _) => o3.frozen (p := ⟨k, o, none⟩) h1 (by simp only; omega); have y3 : wr.heap.size ≤ v3.heap.size := (by omega); (try (have t3_0 : wr.heap.size < v3.heap.size := (by omega))); (try (have t3_1 : v1.heap.size < v3.heap.size := (by omega))); (try (have t3_2 : v2.heap.size < v3.heap.size := (by omega))))
              | (go_at_call 62; have gq := D1; refine (below_acc 2 (D1.out.next (by go_grown)).cur (Only.refl _ _) (by omega) (by omega)).mono ?_; rintro e v2 ⟨x2, rfl, hx2, k2, o2⟩; have D2 : Hid (DL B a0 len cap b w v2 bl (.slice a1 T.length c1) (.slice (some ⟨gO, 0, none⟩) O.length (dO + 1)) (.slice a3 P.length c3) T O P) := (D1.out.next (by go_grown)).draw o2 k2; have I2 : Hid (IV v2 lo (.slice (some ⟨gV, 0, none⟩) V.length cV) V) := (I1.out.next (by go_grown)).only o2 hbc; have H2 : Hid (∀ W, Below v2.heap.size v2 W → W.cell? ⟨bl, 0, none⟩ = some (.slice a1 T.length c1) ∧ W.cell? ⟨bl, 1, none⟩ = some (.slice (some ⟨gO, 0, none⟩) O.length (dO + 1)) ∧ W.cell? ⟨bl, 2, none⟩ = some (.slice a3 P.length c3) ∧ W.cell? ⟨gO, 3, none⟩ = some (.int .i64 t) ∧ ∀ j, j < V.length → W.cell? ⟨gV, j, none⟩ = some (.int .i64 (V.getD j 0))) := fun W h => HSG.out W (D2.out.next h) (I2.out.next h); have z2 := o2.size; (try simp at z2); have m2 := fun k o (h0 : wr.heap.size ≤ k) (h1 : k < _) => o2.cell (p := ⟨k, o, none⟩) h1 (by simp only; omega); have f2 := fun k o (h0 : wr.heap.size ≤ k) (h1 : k < _) => o2.frozen (p := ⟨k, o, none⟩) h1 (by simp only; omega); have y2 : wr.heap.size ≤ v2.heap.size := (by omega); (try (have t2_0 : wr.heap.size < v2.heap.size := (by omega))); (try (have t2_1 : v1.heap.size < v2.heap.size := (by omega))))
              | (go_at_call 62; refine (below_acc _ (D0.out.next (by go_grown)).cur (Only.refl _ _) (by omega) (by omega)).mono ?_; rintro e v1 ⟨x1, rfl, hx1, k1, o1⟩; have D1 : Hid (DL B a0 len cap b w v1 bl (.slice a1 T.length c1) (.slice (some ⟨gO, 0, none⟩) O.length (dO + 1)) (.slice a3 P.length c3) T O P) := (D0.out.next (by go_grown)).draw o1 k1; have I1 : Hid (IV v1 lo (.slice (some ⟨gV, 0, none⟩) V.length cV) V) := (I0.out.next (by go_grown)).only o1 hbc; have H1 : Hid (∀ W, Below v1.heap.size v1 W → W.cell? ⟨bl, 0, none⟩ = some (.slice a1 T.length c1) ∧ W.cell? ⟨bl, 1, none⟩ = some (.slice (some ⟨gO, 0, none⟩) O.length (dO + 1)) ∧ W.cell? ⟨bl, 2, none⟩ = some (.slice a3 P.length c3) ∧ W.cell? ⟨gO, 3, none⟩ = some (.int .i64 t) ∧ ∀ j, j < V.length → W.cell? ⟨gV, j, none⟩ = some (.int .i64 (V.getD j 0))) := fun W h => HSG.out W (D1.out.next h) (I1.out.next h); have z1 := o1.size; (try simp at z1); have m1 := fun k o (h0 : wr.heap.size ≤ k) (h1 : k < _) => o1.cell (p := ⟨k, o, none⟩) h1 (by simp only; omega); have f1 := fun k o (h0 : wr.heap.size ≤ k) (h1 : k < _) => o1.frozen (p := ⟨k, o, none⟩) h1 (by simp only; omega); have y1 : wr.heap.size ≤ v1.heap.size := (by omega); (try (have t1_0 : wr.heap.size < v1.heap.size := (by omega))); obtain ⟨X, rfl⟩ := Int.eq_ofNat_of_zero_le hx1.1; have hX : X < V.length := (by omega); have hXi : (X : Int) < (V.length : Int) := (by omega)))
          all_goals (repeat go_step)
          all_goals go_meet
          all_goals first
            | exact ⟨_, a4, c4, a5, c5, a6, c6, _, _, _, rfl, X7.new (by (try simp); omega) (by omega) lv5 (fun h => spend_ln _ _ _ _ _ _ h) (spend_lengths _ _ _ _ _ _).1, D5.out.next (new_below _ _), I5.out.next (new_below _ _)⟩
            | skip
          · have e0 : v5.cell? ⟨v4.heap.size, 0, none⟩ = some (.slice none 0 0) := ((m5 _ 0 (by simp)).trans (by go_simp))
            have e1 : v5.cell? ⟨v4.heap.size, 1, none⟩ = some (.slice none 0 0) := ((m5 _ 1 (by simp)).trans (by go_simp))
            have e2 : v5.cell? ⟨v4.heap.size, 2, none⟩ = some (.slice none 0 0) := ((m5 _ 2 (by simp)).trans (by go_simp))
            have hwr := D.out.only.size
            exact ⟨v4.heap.size, a4, c4, a5, c5, a6, c6, _, _, _, rfl, X7.put (by omega) (by simp) hb5.size lv5 e0 e1 e2 (fun h => spend_ln _ _ _ _ _ _ h) (spend_lengths _ _ _ _ _ _).1, D5.out.far (by omega) (by omega) (HRW.out _ y4) _ _ _, I5.out.far (by omega) _ _ _⟩
          · have e0 : v5.cell? ⟨v3.heap.size, 0, none⟩ = some (.slice none 0 0) := ((m5 _ 0 t4_3).trans ((m4 _ 0 y3 (by simp)).trans (by go_simp)))
            have e1 : v5.cell? ⟨v3.heap.size, 1, none⟩ = some (.slice none 0 0) := ((m5 _ 1 t4_3).trans ((m4 _ 1 y3 (by simp)).trans (by go_simp)))
            have e2 : v5.cell? ⟨v3.heap.size, 2, none⟩ = some (.slice none 0 0) := ((m5 _ 2 t4_3).trans ((m4 _ 2 y3 (by simp)).trans (by go_simp)))
            have hwr := D.out.only.size
            exact ⟨v3.heap.size, a4, c4, a5, c5, a6, c6, _, _, _, rfl, X7.put (by omega) t4_3 hb5.size lv5 e0 e1 e2 (fun h => spend_ln _ _ _ _ _ _ h) (spend_lengths _ _ _ _ _ _).1, D5.out.far (by omega) (by omega) (HRW.out _ y3) _ _ _, I5.out.far (by omega) _ _ _⟩
          · have e0 : v5.cell? ⟨v2.heap.size, 0, none⟩ = some (.slice none 0 0) := ((m5 _ 0 t4_2).trans ((m4 _ 0 y2 t3_2).trans ((m3 _ 0 y2 (by simp)).trans (by go_simp))))
            have e1 : v5.cell? ⟨v2.heap.size, 1, none⟩ = some (.slice none 0 0) := ((m5 _ 1 t4_2).trans ((m4 _ 1 y2 t3_2).trans ((m3 _ 1 y2 (by simp)).trans (by go_simp))))
            have e2 : v5.cell? ⟨v2.heap.size, 2, none⟩ = some (.slice none 0 0) := ((m5 _ 2 t4_2).trans ((m4 _ 2 y2 t3_2).trans ((m3 _ 2 y2 (by simp)).trans (by go_simp))))
            have hwr := D.out.only.size
            exact ⟨v2.heap.size, a4, c4, a5, c5, a6, c6, _, _, _, rfl, X7.put (by omega) t4_2 hb5.size lv5 e0 e1 e2 (fun h => spend_ln _ _ _ _ _ _ h) (spend_lengths _ _ _ _ _ _).1, D5.out.far (by omega) (by omega) (HRW.out _ y2) _ _ _, I5.out.far (by omega) _ _ _⟩
          · have e0 : v5.cell? ⟨v1.heap.size, 0, none⟩ = some (.slice none 0 0) := ((m5 _ 0 t4_1).trans ((m4 _ 0 y1 t3_1).trans ((m3 _ 0 y1 t2_1).trans ((m2 _ 0 y1 (by simp)).trans (by go_simp)))))
            have e1 : v5.cell? ⟨v1.heap.size, 1, none⟩ = some (.slice none 0 0) := ((m5 _ 1 t4_1).trans ((m4 _ 1 y1 t3_1).trans ((m3 _ 1 y1 t2_1).trans ((m2 _ 1 y1 (by simp)).trans (by go_simp)))))
            have e2 : v5.cell? ⟨v1.heap.size, 2, none⟩ = some (.slice none 0 0) := ((m5 _ 2 t4_1).trans ((m4 _ 2 y1 t3_1).trans ((m3 _ 2 y1 t2_1).trans ((m2 _ 2 y1 (by simp)).trans (by go_simp)))))
            have hwr := D.out.only.size
            exact ⟨v1.heap.size, a4, c4, a5, c5, a6, c6, _, _, _, rfl, X7.put (by omega) t4_1 hb5.size lv5 e0 e1 e2 (fun h => spend_ln _ _ _ _ _ _ h) (spend_lengths _ _ _ _ _ _).1, D5.out.far (by omega) (by omega) (HRW.out _ y1) _ _ _, I5.out.far (by omega) _ _ _⟩
          · have e0 : v5.cell? ⟨wr.heap.size, 0, none⟩ = some (.slice none 0 0) := ((m5 _ 0 t4_0).trans ((m4 _ 0 (Nat.le_refl _) t3_0).trans ((m3 _ 0 (Nat.le_refl _) t2_0).trans ((m2 _ 0 (Nat.le_refl _) t1_0).trans ((m1 _ 0 (Nat.le_refl _) (by simp)).trans (by go_simp))))))
            have e1 : v5.cell? ⟨wr.heap.size, 1, none⟩ = some (.slice none 0 0) := ((m5 _ 1 t4_0).trans ((m4 _ 1 (Nat.le_refl _) t3_0).trans ((m3 _ 1 (Nat.le_refl _) t2_0).trans ((m2 _ 1 (Nat.le_refl _) t1_0).trans ((m1 _ 1 (Nat.le_refl _) (by simp)).trans (by go_simp))))))
            have e2 : v5.cell? ⟨wr.heap.size, 2, none⟩ = some (.slice none 0 0) := ((m5 _ 2 t4_0).trans ((m4 _ 2 (Nat.le_refl _) t3_0).trans ((m3 _ 2 (Nat.le_refl _) t2_0).trans ((m2 _ 2 (Nat.le_refl _) t1_0).trans ((m1 _ 2 (Nat.le_refl _) (by simp)).trans (by go_simp))))))
            have hwr := D.out.only.size
            exact ⟨wr.heap.size, a4, c4, a5, c5, a6, c6, _, _, _, rfl, X7.put (by omega) t4_0 hb5.size lv5 e0 e1 e2 (fun h => spend_ln _ _ _ _ _ _ h) (spend_lengths _ _ _ _ _ _).1, D5.out.far (by omega) (by omega) (HRW.out _ (Nat.le_refl _)) _ _ _, I5.out.far (by omega) _ _ _⟩
        case rest =>
          clear H0 HSG HST HRW D0 I0 D I c0 c1' c2' HT
          obtain ⟨bx, a4, c4, a5, c5, a6, c6, T', O', P', rfl, x, d, i⟩ := hcut
          have DX : Hid (DL B a0 len cap b w wc bl (.slice a1 T.length c1) (.slice (some ⟨gO, 0, none⟩) O.length (dO + 1)) (.slice a3 P.length c3) T O P) := d
          have IX : Hid (IV wc lo (.slice (some ⟨gV, 0, none⟩) V.length cV) V) := i
          have XX : Hid (X7 bl wc bx (.slice a4 (List.length T') c4) (.slice a5 (List.length O') c5) (.slice a6 (List.length P') c6) T' O' P') := x
          have x0 := x.c0
          have x1 := x.c1
          have x2 := x.c2
          have y0 := d.c0
          have y1 := d.c1
          have y2 := d.c2
          have yf := d.fr
          have hT30 : (T'.length : Int) ≤ 30 := by have := x.l30; omega
          clear x d i
          rcases Nat.eq_zero_or_pos T'.length with h0 | h0
          · obtain rfl : T' = [] := List.eq_nil_of_length_eq_zero h0
            clear h0
            go_wp2
            go_roundw
            case rel => exact ⟨j, T, O, P, by go_num, by omega, HL, ⟨_, _, _, _, _, _, DX.out⟩, IX⟩
            case measure => first | (simp [intOf]; done) | (simp [intOf]; omega)
          · have h0i : (0 : Int) < (T'.length : Int) := by omega
            have HP : Hid (∃ lo', bl < lo' ∧ LV wc lo' (.slice a4 (List.length T') c4) (.slice a5 (List.length O') c5) (.slice a6 (List.length P') c6) T' O' P') := XX.out.lv
            go_wp2
            go_roundw
            case rel =>
              obtain ⟨lo', hlo', lv⟩ := HP.out
              exact ⟨j, T', O', P', by go_num, by omega, XX.out.ln h0, ⟨_, _, _, _, _, _, DX.out.over (Below.refl _ _) hlo' lv⟩, ((IX.out.set hblc _ _).set hblc _ _).set hblc _ _⟩
            case measure => first | (simp [intOf]; done) | (simp [intOf]; omega)
end Go.Proofs.Ytdgefdjgpneanad
