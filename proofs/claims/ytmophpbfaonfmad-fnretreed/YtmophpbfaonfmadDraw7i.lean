/- The draws of a Lend: spec.DrawRetree. -/
import Derived.Test.YtmophpbfaonfmadGrpR
import Derived.Test.YtmophpbfaonfmadGrpQ
import Derived.Deep.CutBlock
namespace Go.Proofs.Ytmophpbfaonfmad
open Go.ChangeShapes Go.WideShapes Go.ChangeAt Go.RowKit
set_option maxRecDepth 100000
set_option linter.unusedVariables false
set_option linter.unusedSimpArgs false

theorem row_low7 {w : World} {b b' : Nat} {e : TypeId} {s n : Nat} {v : Value} {xs : List Value} (h : w.ownsRow b e s v n xs) (hb : b' ≤ b) : w.ownsRow b' e s v n xs :=
  ⟨h.1, h.2.imp id (fun ⟨g, cap, cur, e1, hg, r⟩ => ⟨g, cap, cur, e1, Nat.le_trans hb hg, r⟩)⟩
theorem own_none4 (w : World) (t : TypeId) : (w.alloc (.cells #[] t)).ownsRow w.heap.size t 4 (.slice (some ⟨w.heap.size, 0, none⟩) 0 0) 0 [] :=
  ⟨rfl, .inr ⟨w.heap.size, 0, _, rfl, Nat.le_refl _, heap_alloc_new w _, Nat.le_refl _, Nat.zero_le _, rfl, rfl⟩⟩
theorem N7.putn {B : Nat} {a0 : Option Addr} {len cap b : Nat} {w0 wr : World} {lo bl mk : Nat} {a1 a2 a3 : Option Addr} {c1 c2 c3 : Nat} {T O P : List Q4} {S : List Q4} {g n c j : Nat} (hn : S.length = n) (d : N7 B a0 len cap b w0 wr lo bl mk a1 c1 a2 c2 a3 c3 T O P (.slice (some ⟨g, 0, none⟩) n c) S) (hg : mk ≤ g) (z : Int) :
    ∃ S', S'.length = n ∧ N7 B a0 len cap b w0 (wr.setCell ⟨g, j, none⟩ (.int .i64 z)) lo bl mk a1 c1 a2 c2 a3 c3 T O P (.slice (some ⟨g, 0, none⟩) n c) S' := by
  subst hn
  exact d.put hg z
theorem N7.any {B : Nat} {a0 : Option Addr} {len cap b : Nat} {w0 wr : World} {lo bl mk : Nat} {a1 a2 a3 : Option Addr} {c1 c2 c3 : Nat} {T O P : List Q4} {S : List Q4} {g n c : Nat} (hn : S.length = n) (d : N7 B a0 len cap b w0 wr lo bl mk a1 c1 a2 c2 a3 c3 T O P (.slice (some ⟨g, 0, none⟩) n c) S) : ∀ j, j < n * 4 → (∃ z, wr.cell? ⟨g, j, none⟩ = some (.int .i64 z)) ∧ wr.frozen? ⟨g, j, none⟩ = false := by
  subst hn
  intro j hj
  obtain ⟨g', cp, e, _, _, f, _⟩ := own_quads d.own (fun e => by injection e with e; cases e)
  injection e with e
  injection e with e
  injection e with e
  subst e
  exact f.any j hj
/-- The copy of the tree is made. -/
theorem N7.begin {B : Nat} {a0 : Option Addr} {len cap b : Nat} {w0 w1 v w6 : World} {bl : Nat} {a1 a2 a3 : Option Addr} {c1 c2 c3 : Nat} {T O P : List Q4} {vt : Value} (d : M7 B a0 len cap b w0 w1 v bl a1 c1 a2 c2 a3 c3 T O P) (hbl : bl < v.heap.size)
    (q1 : QB w1.heap.size bl v a1 T) (q2 : QB w1.heap.size bl v a2 O) (q3 : QB w1.heap.size bl v a3 P) (hb6 : Below v.heap.size v w6) (own : w6.ownsRow v.heap.size 34 4 vt T.length (flatQ T)) :
    N7 B a0 len cap b w0 w6 w1.heap.size bl v.heap.size a1 c1 a2 c2 a3 c3 T O P vt T := by
  have h1 := d.s.lt
  have h2 := d.s.bl0
  have m := d.next hb6
  have on : Only b v w6 := Only.of_below hb6
  exact ⟨m.s.cur, m.hb, m.r0, m.r1, m.r2, m.rf, m.z0, h1, h2, hbl, hb6.size, m.s.c0, m.s.c1', m.s.c2', q1.only on (.inl h1) (by omega), q2.only on (.inl h1) (by omega), q3.only on (.inl h1) (by omega), own⟩
def RtPost (w : World) (e : Ending) (w' : World) : Prop := ∃ a1 c1 a2 c2 a3 c3 T O P aS cS S now, e = .returned (.tuple #[lendV a1 (List.length T) c1 a2 (List.length O) c2 a3 (List.length P) c3, .slice aS (List.length S) cS, .int .i64 now]) ∧ (Quad w'.heap.size w' a1 T ∧ Quad w'.heap.size w' a2 O ∧ Quad w'.heap.size w' a3 P ∧ Quad w'.heap.size w' aS S) ∧ (T.length ≤ 30 ∧ O.length ≤ 30 ∧ P.length ≤ 30 ∧ S.length ≤ 31) ∧ Below w.heap.size w w'
set_option maxHeartbeats 8000000 in
theorem drawRetree_any {B : Nat} {a0 : Option Addr} {len : Nat} (cap : Nat) {w0 : World} (hs : len ≤ 4096) (row : Row B a0 len w0) (hB : B ≤ w0.heap.size) :
    Calls Try.prog 15 #[.slice a0 len cap] w0 (RtPost w0) := by
  obtain ⟨i0, hi, hz0, hz1, hz2⟩ := info_parts info_class
  go_enter Try.func15, Try.ntmps15
  go_upto_region 3 with (first
    | (go_at_call 46; refine (new_any cap hs (row.mono ((Below.refl B w0).alloc hB _)) (by simp; omega)).mono ?_; rintro e w1 ⟨b, rfl, hb, k1, hb1⟩; have hb' : w0.heap.size < b := (by simp at hb; omega))
    | (go_at_call 47; refine (l7DrawAsk_acc k1).mono ?_; rintro e w2 ⟨a1, c1, a2, c2, a3, c3, T, O, P, leaf, now, n, rfl, ⟨k2, o2⟩, ⟨hq1, hq2, hq3⟩, hl⟩; have HQ : Hid (QR w1.heap.size w2 a1 T ∧ QR w1.heap.size w2 a2 O ∧ QR w1.heap.size w2 a3 P) := ⟨hq1, hq2, hq3⟩; clear hq1 hq2 hq3))
  obtain ⟨gT, oT, ha1, _⟩ := HQ.out.1.1 0 (by have := hl.2.2.2; omega)
  subst ha1
  obtain ⟨v, hv⟩ : ∃ v, v = w2.alloc (.cells #[.slice (some ⟨gT, oT, none⟩) T.length c1, .slice a2 O.length c2, .slice a3 P.length c3] 27) := ⟨_, rfl⟩
  rw [← hv]
  have D : Hid (M7 B a0 len cap b w0 w1 v w2.heap.size (some ⟨gT, oT, none⟩) c1 a2 c2 a3 c3 T O P) := by rw [hv]; exact M7.begin hb1 hb' k1 k2 o2 HQ.out.1 HQ.out.2.1 HQ.out.2.2
  have nb : Below w2.heap.size w2 v := by rw [hv]; exact new_below _ _
  have hvz : w2.heap.size < v.heap.size := by rw [hv]; simp
  have hbz := k1.hi
  have QS : Hid (QB w1.heap.size w2.heap.size v (some ⟨gT, oT, none⟩) T ∧ QB w1.heap.size w2.heap.size v a2 O ∧ QB w1.heap.size w2.heap.size v a3 P) := by
    have on : Only b w2 v := Only.of_below nb
    have f : ∀ {a : Option Addr} {xs : List Q4}, QR w1.heap.size w2 a xs → QB w1.heap.size w2.heap.size v a xs := fun h => QB.only (lo := w1.heap.size) (hi := w2.heap.size) ⟨h.1, h.2⟩ on (.inl hbz) (Nat.le_refl _)
    exact ⟨f HQ.out.1, f HQ.out.2.1, f HQ.out.2.2⟩
  clear hv k1 k2 o2 hb1 hb HQ nb
  obtain ⟨bl, hbl⟩ : ∃ x, x = w2.heap.size := ⟨_, rfl⟩
  rw [← hbl] at D QS hvz ⊢
  clear hbl
  have j0 := D.out.s.c0
  have hT30 := hl.1
  have hT1 := hl.2.2.2
  have HL : Hid (T.length ≤ 30 ∧ O.length ≤ 30 ∧ P.length ≤ 30) := ⟨hl.1, hl.2.1, hl.2.2.1⟩
  have QN : Hid (∀ j u, (flatQ T)[j]? = some u → (v.alloc (.cells #[] 34)).cell? ((⟨gT, oT, none⟩ : Addr).add j) = some u) := quad_news (((QS.out.1.quad (by omega)).here (new_below _ _)))
  go_upto_region 4 with (first
    | (at_builtin; refine wpList_append_own _ rfl _ _ 24 rfl v.heap.size 34 i0 _ 4 32 Try.underlying24 hi hz0 hz1 hz2 rfl (by decide) _ 0 [] rfl (own_none4 v _) ⟨gT, oT, none⟩ T.length c1 (flatQ T) rfl (flatQ_length T) QN.out (flatQ_cell T) (by unfold maxLen; omega) (by omega) (by simp) ?_; intro vt w6 own6 gr6 hnl; clear hnl))
  have hb6 : Below v.heap.size v w6 := ⟨gr6.os, gr6.tape, gr6.output, by have := gr6.size; simp at this; omega, fun y hy => (gr6.block y (by simp; omega) (fun e => by have := Option.some.inj (show some y = some v.heap.size from e); omega)).trans ((new_below v _).block y hy)⟩
  have own6' : w6.ownsRow v.heap.size 34 4 vt T.length (flatQ T) := by simpa using own6
  obtain ⟨g, cp, hvt, hgm⟩ : ∃ g cp, vt = .slice (some ⟨g, 0, none⟩) T.length cp ∧ v.heap.size ≤ g := by
    rcases own6'.2 with ⟨_, e2⟩ | ⟨g, cp, cur, e1, hg, _⟩
    · omega
    · exact ⟨g, cp, e1, hg⟩
  subst hvt
  have N0 : Hid (N7 B a0 len cap b w0 w6 w1.heap.size bl v.heap.size (some ⟨gT, oT, none⟩) c1 a2 c2 a3 c3 T O P (.slice (some ⟨g, 0, none⟩) T.length cp) T) := N7.begin D.out hvz QS.out.1 QS.out.2.1 QS.out.2.2 hb6 own6'
  clear own6 own6' gr6 hb6 D QS QN j0 hvz
  obtain ⟨lo, hlo⟩ : ∃ x, x = w1.heap.size := ⟨_, rfl⟩
  obtain ⟨mk, hmk⟩ : ∃ x, x = v.heap.size := ⟨_, rfl⟩
  rw [← hlo, ← hmk] at N0
  rw [← hmk] at hgm
  clear hlo hmk hbz
  have hTi : (T.length : Int) ≤ 30 := by omega
  go_upto_if 26 with (first
    | (go_at_call 61; refine (once_acc _ N0.out.cur (Only.refl _ _) (by omega) (by omega)).mono ?_; rintro e w7 ⟨f7, rfl, k7, o7⟩; have N1 : Hid (N7 B a0 len cap b w0 w7 lo bl mk (some ⟨gT, oT, none⟩) c1 a2 c2 a3 c3 T O P (.slice (some ⟨g, 0, none⟩) T.length cp) T) := N0.out.draw o7 k7))
  clear N0
  go_cut [11] from 25 (fun _ wd => ∃ S', S'.length = T.length ∧ N7 B a0 len cap b w0 wd lo bl mk (some ⟨gT, oT, none⟩) c1 a2 c2 a3 c3 T O P (.slice (some ⟨g, 0, none⟩) T.length cp) S')
  case first =>
    cases f7
    · go_wp2
      go_meet
      exact ⟨T, rfl, N1.out⟩
    · go_wp2
      go_loopw [11] (fun s wr => ∃ (k : Nat) (S' : List Q4), s = .int .i64 k ∧ k ≤ T.length ∧ Hid (S'.length = T.length) ∧ Hid (N7 B a0 len cap b w0 wr lo bl mk (some ⟨gT, oT, none⟩) c1 a2 c2 a3 c3 T O P (.slice (some ⟨g, 0, none⟩) T.length cp) S')) (fun s _ => T.length - (intOf s).toNat)
      case atStart => exact ⟨0, T, rfl, by omega, rfl, N1⟩
      case round =>
        obtain ⟨k, S', rfl, hk, HSL, NR⟩ := hrel
        by_cases hlt : k < T.length
        · have hlt' : (k : Int) < (T.length : Int) := by omega
          go_wp2_with (first
            | (go_at_call 62; refine (below_acc 9000 NR.out.cur (Only.refl _ _) (by omega) (by omega)).mono ?_; rintro e w8 ⟨x8, rfl, hx8, k8, o8⟩; have N8 : Hid (N7 B a0 len cap b w0 w8 lo bl mk (some ⟨gT, oT, none⟩) c1 a2 c2 a3 c3 T O P (.slice (some ⟨g, 0, none⟩) T.length cp) S') := NR.out.draw o8 k8; have ha8 := N8.out.any HSL.out (k * 4 + 3) (by omega); obtain ⟨⟨z8, hz8⟩, hf8⟩ := ha8; have hw8 : IntKind.i64.wrap (1500 + x8) = 1500 + x8 := (by rw [IntKind.wrap_i64]; omega)))
          go_roundw
          case rel =>
            obtain ⟨S2, hl2, d2⟩ := N8.out.putn HSL.out hgm (j := k * 4 + 3) (1500 + x8)
            exact ⟨k + 1, S2, by go_num, by omega, hl2, d2⟩
          case measure => first | (simp [intOf]; done) | (simp [intOf]; omega)
        · have hlt' : ¬ (k : Int) < (T.length : Int) := by omega
          go_wp2
          go_meet
          exact ⟨S', HSL.out, NR.out⟩
  case rest =>
  clear N1 k7 o7
  obtain ⟨S1, hS1, d1⟩ := hcut
  have HS1 : Hid (S1.length = T.length) := hS1
  have N2 : Hid (N7 B a0 len cap b w0 wc lo bl mk (some ⟨gT, oT, none⟩) c1 a2 c2 a3 c3 T O P (.slice (some ⟨g, 0, none⟩) T.length cp) S1) := d1
  clear hS1 d1
  obtain ⟨m, hm⟩ : ∃ m, T.length = m + 1 := ⟨T.length - 1, by omega⟩
  have hwm : IntKind.i64.wrap ((T.length : Int) - 1) = (m : Int) := by rw [IntKind.wrap_i64]; omega
  have hmT : (m : Int) < (T.length : Int) := by omega
  have HM : Hid (T.length = m + 1) := hm
  clear hm
  have hT0 : (0 : Int) < (T.length : Int) := by omega
  go_upto_if 46 with (first
    | (go_at_call 61; refine (once_acc _ N2.out.cur (Only.refl _ _) (by omega) (by omega)).mono ?_; rintro e w9 ⟨f9, rfl, k9, o9⟩; have N3 : Hid (N7 B a0 len cap b w0 w9 lo bl mk (some ⟨gT, oT, none⟩) c1 a2 c2 a3 c3 T O P (.slice (some ⟨g, 0, none⟩) T.length cp) S1) := N2.out.draw o9 k9; cases f9))
  · go_upto_region 11 with (fail)
    go_upto_if 62 with (first
      | (go_at_call 61; refine (once_acc _ N3.out.cur (Only.refl _ _) (by omega) (by omega)).mono ?_; rintro e wq ⟨fq, rfl, kq, oq⟩; have N5 : Hid (N7 B a0 len cap b w0 wq lo bl mk (some ⟨gT, oT, none⟩) c1 a2 c2 a3 c3 T O P (.slice (some ⟨g, 0, none⟩) T.length cp) S1) := N3.out.draw oq kq))
    clear N3
    go_cut [10] from 61 (fun s wd => ∃ aS cS SS, s = .slice aS (List.length SS) cS ∧ List.length SS ≤ 31 ∧ N7 B a0 len cap b w0 wd lo bl mk (some ⟨gT, oT, none⟩) c1 a2 c2 a3 c3 T O P (.slice aS (List.length SS) cS) SS)
    case first =>
      cases fq
      · go_wp2
        go_meet
        exact ⟨some ⟨g, 0, none⟩, cp, S1, by rw [HS1.out], by rw [HS1.out]; omega, by (have h := N5.out; rw [← HS1.out] at h; exact h)⟩
      · go_wp2_with (first
          | (go_at_call 63; refine (l6DrawAny_acc N5.out.cur).mono ?_; rintro e wl ⟨aS, nS, cS, SS, rfl, ts, hS31⟩; have TS : Hid (TSt B a0 len cap b wq wl (.slice aS nS cS) SS) := ts; clear ts))
        go_meet
        have hz5 := N5.out.z4
        obtain ⟨ea, ec, ee⟩ := own_slice TS.out.own
        injection ee with _ ee _
        subst ee
        exact ⟨aS, cS, SS, rfl, hS31, N5.out.keep TS.out.only (.inl rfl) TS.out.cur (row_low7 TS.out.own hz5)⟩
    case rest =>
    obtain ⟨aS, cS, SS, rfl, hS31, d9⟩ := hcut
    have N9 : Hid (N7 B a0 len cap b w0 wc lo bl mk (some ⟨gT, oT, none⟩) c1 a2 c2 a3 c3 T O P (.slice aS (List.length SS) cS) SS) := d9
    clear d9
    have q0 := N9.out.r0
    have q1 := N9.out.r1
    have q2 := N9.out.r2
    have qf := N9.out.rf
    have e0 := N9.out.c0
    have e1 := N9.out.c1'
    have e2 := N9.out.c2'
    have nn : w0.heap.size ≠ bl := by have := N9.out.z0; have := N9.out.z1; have := N9.out.z2; omega
    have nn2 : bl ≠ w0.heap.size := fun e => nn e.symm
    have hbl3 : bl ≤ wc.heap.size := by have := N9.out.z3; have := N9.out.z4; omega
    have hwl : w0.heap.size < lo := by have := N9.out.z0; have := N9.out.z1; omega
    have hwm' : w0.heap.size < mk := by have := N9.out.z2; have := N9.out.z3; omega
    go_wp2
    refine bodyPost_ret (results_l3 rfl _ _ _ [.slice (some ⟨gT, oT, none⟩) T.length c1, .slice a2 O.length c2, .slice a3 P.length c3] rfl (set_three (u0 := .slice none 0 0) (u1 := .slice none 0 0) (u2 := .slice none 0 0) _ _ _ q0 q1 q2) Try.underlying27 rfl (by kernel_rfl)) rfl ?_
    have hO : Only w0.heap.size wc (((wc.setCell ⟨w0.heap.size, 0, none⟩ (.slice (some ⟨gT, oT, none⟩) T.length c1)).setCell ⟨w0.heap.size, 1, none⟩ (.slice a2 O.length c2)).setCell ⟨w0.heap.size, 2, none⟩ (.slice a3 P.length c3)) := (((Only.refl w0.heap.size wc).setCell (p := ⟨w0.heap.size, 0, none⟩) rfl _).setCell (p := ⟨w0.heap.size, 1, none⟩) rfl _).setCell (p := ⟨w0.heap.size, 2, none⟩) rfl _
    have hz9 := hO.size
    refine ⟨_, c1, a2, c2, a3, c3, T, O, P, aS, cS, SS, now, rfl, ⟨(N9.out.q1.only hO (.inl hwl) hbl3).quad (by omega), (N9.out.q2.only hO (.inl hwl) hbl3).quad (by omega), (N9.out.q3.only hO (.inl hwl) hbl3).quad (by omega), own_quad (row_only N9.out.own hO hwm')⟩, ⟨HL.out.1, HL.out.2.1, HL.out.2.2, hS31⟩, N9.out.hb.trans (hO.below (Nat.le_refl _) N9.out.hb.size)⟩
  · obtain ⟨⟨z9, hz9'⟩, hf9⟩ := N3.out.any HS1.out (m * 4 + 1) (by have := HM.out; omega)
    have hm30 : m < 30 := by have := HM.out; omega
    go_upto_region 11 with (fail)
    obtain ⟨S4, hS4, d4⟩ := N3.out.putn HS1.out hgm (j := m * 4 + 1) (wrap64 (z9.tdiv 2))
    obtain ⟨wp4, hwp4⟩ : ∃ x, x = w9.setCell ⟨g, m * 4 + 1, none⟩ (.int .i64 (wrap64 (z9.tdiv 2))) := ⟨_, rfl⟩
    rw [← hwp4] at d4 ⊢
    have N4 : Hid (N7 B a0 len cap b w0 wp4 lo bl mk (some ⟨gT, oT, none⟩) c1 a2 c2 a3 c3 T O P (.slice (some ⟨g, 0, none⟩) T.length cp) S4) := d4
    have HS4 : Hid (S4.length = T.length) := hS4
    clear d4 hS4 hwp4 N3
    go_upto_if 62 with (first
      | (go_at_call 61; refine (once_acc _ N4.out.cur (Only.refl _ _) (by omega) (by omega)).mono ?_; rintro e wq ⟨fq, rfl, kq, oq⟩; have N5 : Hid (N7 B a0 len cap b w0 wq lo bl mk (some ⟨gT, oT, none⟩) c1 a2 c2 a3 c3 T O P (.slice (some ⟨g, 0, none⟩) T.length cp) S4) := N4.out.draw oq kq))
    clear N4
    go_cut [10] from 61 (fun s wd => ∃ aS cS SS, s = .slice aS (List.length SS) cS ∧ List.length SS ≤ 31 ∧ N7 B a0 len cap b w0 wd lo bl mk (some ⟨gT, oT, none⟩) c1 a2 c2 a3 c3 T O P (.slice aS (List.length SS) cS) SS)
    case first =>
      cases fq
      · go_wp2
        go_meet
        exact ⟨some ⟨g, 0, none⟩, cp, S4, by rw [HS4.out], by rw [HS4.out]; omega, by (have h := N5.out; rw [← HS4.out] at h; exact h)⟩
      · go_wp2_with (first
          | (go_at_call 63; refine (l6DrawAny_acc N5.out.cur).mono ?_; rintro e wl ⟨aS, nS, cS, SS, rfl, ts, hS31⟩; have TS : Hid (TSt B a0 len cap b wq wl (.slice aS nS cS) SS) := ts; clear ts))
        go_meet
        have hz5 := N5.out.z4
        obtain ⟨ea, ec, ee⟩ := own_slice TS.out.own
        injection ee with _ ee _
        subst ee
        exact ⟨aS, cS, SS, rfl, hS31, N5.out.keep TS.out.only (.inl rfl) TS.out.cur (row_low7 TS.out.own hz5)⟩
    case rest =>
    obtain ⟨aS, cS, SS, rfl, hS31, d9⟩ := hcut
    have N9 : Hid (N7 B a0 len cap b w0 wc lo bl mk (some ⟨gT, oT, none⟩) c1 a2 c2 a3 c3 T O P (.slice aS (List.length SS) cS) SS) := d9
    clear d9
    have q0 := N9.out.r0
    have q1 := N9.out.r1
    have q2 := N9.out.r2
    have qf := N9.out.rf
    have e0 := N9.out.c0
    have e1 := N9.out.c1'
    have e2 := N9.out.c2'
    have nn : w0.heap.size ≠ bl := by have := N9.out.z0; have := N9.out.z1; have := N9.out.z2; omega
    have nn2 : bl ≠ w0.heap.size := fun e => nn e.symm
    have hbl3 : bl ≤ wc.heap.size := by have := N9.out.z3; have := N9.out.z4; omega
    have hwl : w0.heap.size < lo := by have := N9.out.z0; have := N9.out.z1; omega
    have hwm' : w0.heap.size < mk := by have := N9.out.z2; have := N9.out.z3; omega
    go_wp2
    refine bodyPost_ret (results_l3 rfl _ _ _ [.slice (some ⟨gT, oT, none⟩) T.length c1, .slice a2 O.length c2, .slice a3 P.length c3] rfl (set_three (u0 := .slice none 0 0) (u1 := .slice none 0 0) (u2 := .slice none 0 0) _ _ _ q0 q1 q2) Try.underlying27 rfl (by kernel_rfl)) rfl ?_
    have hO : Only w0.heap.size wc (((wc.setCell ⟨w0.heap.size, 0, none⟩ (.slice (some ⟨gT, oT, none⟩) T.length c1)).setCell ⟨w0.heap.size, 1, none⟩ (.slice a2 O.length c2)).setCell ⟨w0.heap.size, 2, none⟩ (.slice a3 P.length c3)) := (((Only.refl w0.heap.size wc).setCell (p := ⟨w0.heap.size, 0, none⟩) rfl _).setCell (p := ⟨w0.heap.size, 1, none⟩) rfl _).setCell (p := ⟨w0.heap.size, 2, none⟩) rfl _
    have hz9 := hO.size
    refine ⟨_, c1, a2, c2, a3, c3, T, O, P, aS, cS, SS, now, rfl, ⟨(N9.out.q1.only hO (.inl hwl) hbl3).quad (by omega), (N9.out.q2.only hO (.inl hwl) hbl3).quad (by omega), (N9.out.q3.only hO (.inl hwl) hbl3).quad (by omega), own_quad (row_only N9.out.own hO hwm')⟩, ⟨HL.out.1, HL.out.2.1, HL.out.2.2, hS31⟩, N9.out.hb.trans (hO.below (Nat.le_refl _) N9.out.hb.size)⟩
end Go.Proofs.Ytmophpbfaonfmad
