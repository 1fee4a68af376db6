/- Lemmas on the way, of several texts: ImplAlong, ImplAlong2. -/
import Derived.Test.YtkohlmloobojfaaGreatGrpAF
import Derived.Test.YtkohlmloobojfaaGreatGrpBC
import Derived.Test.YtkohlmloobojfaaGreatGrpAT
import Derived.Handy
import Derived.Deep.Cut
import Derived.Laws.Cover1
namespace Go.Proofs.YtkohlmloobojfaaGreat
open Go.ChangeShapes Go.WideShapes Go.ChangeAt Go.RowKit Go.Maps
set_option maxRecDepth 100000
set_option linter.unusedVariables false
set_option linter.unusedSimpArgs false
/-- Times that are kept, with nothing known yet, and a lock that is free. -/
structure Tim (tb bm : Nat) (w : World) : Prop where
 c0 : w.cell? ⟨tb, 0, none⟩ = some (.int .i32 0)
 c2 : w.cell? ⟨tb, 2, none⟩ = some (.map (some bm))
 f0 : w.frozen? ⟨tb, 0, none⟩ = false
 hbs : bm ≠ tb
 own : w.ownsMap Tryz.prog 2 (plainElem (H := Unit) Tryz.prog 2) bm 0 (.map [])
 ht : tb < w.heap.size
 hm : bm < w.heap.size
theorem own_block {w w' : World} {b n : Nat} {D : DataW Unit} (h : w.ownsMap Tryz.prog 2 (plainElem (H := Unit) Tryz.prog 2) b n D) (e : w'.heap[b]? = w.heap[b]?) : w'.ownsMap Tryz.prog 2 (plainElem (H := Unit) Tryz.prog 2) b n D := by
 obtain ⟨es, clock, hb, r⟩ := h
 exact ⟨es, clock, e.trans hb, r⟩
theorem Tim.below {tb bm : Nat} {w w' : World} (h : Tim tb bm w) (hb : Below w.heap.size w w') : Tim tb bm w' :=
 ⟨(hb.cell (by exact h.ht)).trans h.c0, (hb.cell (by exact h.ht)).trans h.c2, (hb.frozen (by exact h.ht)).trans h.f0, h.hbs, own_block h.own (hb.block bm h.hm), Nat.lt_of_lt_of_le h.ht hb.size, Nat.lt_of_lt_of_le h.hm hb.size⟩
theorem onlyC_first {tb bm : Nat} {w x y : World} (h : Below w.heap.size w x) (k : OnlyC tb bm x y) : OnlyC tb bm w y :=
 ⟨k.os.trans h.os, k.tape.trans h.tape, k.output.trans h.output, Nat.le_trans h.size k.size, fun j hj h1 h2 => (k.block j (Nat.lt_of_lt_of_le hj h.size) h1 h2).trans (h.block j hj)⟩
theorem onlyC_then {tb bm : Nat} {w x y : World} (h : OnlyC tb bm w x) (k : Below w.heap.size x y) : OnlyC tb bm w y :=
 ⟨k.os.trans h.os, k.tape.trans h.tape, k.output.trans h.output, Nat.le_trans h.size k.size, fun j hj h1 h2 => (k.block j hj).trans (h.block j hj h1 h2)⟩
theorem onlyC_of {tb bm : Nat} {w x : World} (h : Below w.heap.size w x) : OnlyC tb bm w x := ⟨h.os, h.tape, h.output, h.size, fun j hj _ _ => h.block j hj⟩
theorem at_tim {tb bm : Nat} {la og ms : Int} {w : World} (T : Tim tb bm w) (hl : 0 ≤ la ∧ la ≤ 1000000000) (ho : 0 ≤ og ∧ og ≤ 1000000000) (hm : 0 ≤ ms ∧ ms ≤ 1000000) : Calls Tryz.prog 214 #[.pointer (some ⟨tb, 0, none⟩), .int .i64 la, .int .i64 og, .int .i64 ms] w fun e w' => e = .returned (.int .i64 (cubAt la og ms)) ∧ OnlyC tb bm w w' :=
 at_any tb bm w T.c0 T.c2 T.f0 T.hbs T.own hl ho hm
set_option maxHeartbeats 4000000 in
theorem onCurve_any {k wn th fl ac la og st fr now dx mx : Int} (sl : Bool) (w : World) (hs : 0 ≤ st ∧ st ≤ 1000000000000000) (hn : 0 ≤ now ∧ now ≤ 1000000000000000) (hd : (if now - st < 0 then 0 else now - st) = dx) (hm : (if 1000000 < dx / 1000000 then 1000000 else dx / 1000000) = mx) : Calls Tryz.prog 208 #[.agg #[.int .i64 k, .int .i64 wn, .int .i64 th, .int .i64 fl, .int .i64 ac, .int .i64 la, .int .i64 og, .int .i64 st, .int .i64 fr, .bool sl], .int .i64 now] w fun e w' => e = .returned (.int .i64 mx) ∧ w' = w.alloc (.cells #[.int .i64 k, .int .i64 wn, .int .i64 th, .int .i64 fl, .int .i64 ac, .int .i64 la, .int .i64 og, .int .i64 st, .int .i64 fr, .bool sl] 62) := by
 have r1 : IntKind.i64.wrap (now - st) = now - st := by rw [IntKind.wrap_i64]; omega
 have dx0 : 0 ≤ dx ∧ dx ≤ 1000000000000000 := by rw [← hd]; split <;> omega
 have q9 := tdiv10 dx0.1 1000000
 have q10 : IntKind.i64.wrap (dx / 1000000) = dx / 1000000 := by rw [IntKind.wrap_i64]; omega
 go_enter Tryz.func208, Tryz.ntmps208
 go_wp2
 go_ret
 exact ⟨rfl, rfl⟩
set_option maxHeartbeats 4000000 in
theorem along_old {k wn th fl ac la og st fr n now : Int} {tb bm : Nat} (sl : Bool) (w : World) (T : Tim tb bm w) (h1 : ccB k wn th fl ac la og st fr = true) (h2 : n10B n = true) (h3 : timeB now = true) (h6 : ¬ st = 0) : Calls Tryz.prog 210 #[.agg #[.int .i64 now, .pointer (some ⟨tb, 0, none⟩)], .agg #[.int .i64 k, .int .i64 wn, .int .i64 th, .int .i64 fl, .int .i64 ac, .int .i64 la, .int .i64 og, .int .i64 st, .int .i64 fr, .bool sl], .int .i64 n] w fun e w' => e = .returned (.agg #[.int .i64 k, .int .i64 (wnW wn (frW wn fr n) (tgW wn la og (msOf st now))), .int .i64 th, .int .i64 fl, .int .i64 ac, .int .i64 la, .int .i64 og, .int .i64 st, .int .i64 (frW wn fr n), .bool sl]) ∧ OnlyC tb bm w w' := by
 obtain ⟨_, ⟨wn0, wn1⟩, ⟨th0, th1⟩, ⟨fl0, fl1⟩, _, ⟨la0, la1⟩, ⟨og0, og1⟩, ⟨st0, st1⟩, fr0, fr1⟩ := cc_num h1
 obtain ⟨n0, n1⟩ := n10_num h2
 have t0 : 0 ≤ now ∧ now ≤ 1000000000000000 := by
   have h3' := h3
   unfold timeB at h3'
   simp only [Bool.and_eq_true, decide_eq_true_eq] at h3'
   exact h3'
 obtain ⟨t0, t1⟩ := t0
 have htb := T.ht
 have hmb := T.hm
 have d0 : 0 ≤ n * 9 * 1500 := by omega
 have q1 : IntKind.i64.wrap (n * 9) = n * 9 := by rw [IntKind.wrap_i64]; omega
 have q2 : IntKind.i64.wrap (n * 9 * 1500) = n * 9 * 1500 := by rw [IntKind.wrap_i64]; omega
 have q3 : IntKind.i64.wrap (17 * wn) = 17 * wn := by rw [IntKind.wrap_i64]; omega
 have q4 : ¬ 17 * wn = 0 := by omega
 have q5 : (n * 9 * 1500).tdiv (17 * wn) = n * 9 * 1500 / (17 * wn) := tdiv10 d0 _
 obtain ⟨Q, hQ⟩ : ∃ x, n * 9 * 1500 / (17 * wn) = x := ⟨_, rfl⟩
 have Q0 : 0 ≤ Q := by rw [← hQ]; exact Int.ediv_nonneg d0 (by omega)
 have Q1 : Q ≤ 13500000000000 := by rw [← hQ]; exact Int.le_trans (Int.ediv_le_self _ d0) (by omega)
 rw [hQ] at q5
 have q6 : IntKind.i64.wrap Q = Q := by rw [IntKind.wrap_i64]; omega
 have q7 : IntKind.i64.wrap (fr + Q) = fr + Q := by rw [IntKind.wrap_i64]; omega
 obtain ⟨fx, hfx⟩ : ∃ x, frW wn fr n = x := ⟨_, rfl⟩
 have m4 : (if 1000000000 < fr + Q then 1000000000 else fr + Q) = fx := by rw [← hfx]; unfold frW; rw [hQ]; split <;> omega
 have fx1 : fx ≤ 1000000000 := by rw [← m4]; split <;> omega
 rw [hfx]
 obtain ⟨dx, hdx⟩ : ∃ x, max 0 (now - st) = x := ⟨_, rfl⟩
 obtain ⟨mx, hmx⟩ : ∃ x, msOf st now = x := ⟨_, rfl⟩
 have hO := fun w => onCurve_any (k := k) (wn := wn) (th := th) (fl := fl) (ac := ac) (la := la) (og := og) (st := st) (fr := fx) (now := now) (dx := dx) (mx := mx) sl w (by omega) ⟨t0, t1⟩ (by split <;> omega) (by rw [← hmx]; unfold msOf; rw [hdx]; split <;> omega)
 have mx0 : 0 ≤ mx ∧ mx ≤ 1000000 := by rw [← hmx]; unfold msOf; omega
 rw [hmx]
 obtain ⟨cx, hcx⟩ : ∃ x, cubAt la og mx = x := ⟨_, rfl⟩
 have c1 : cx ≤ 1000000000 := by rw [← hcx]; unfold cubAt; omega
 have hA : ∀ {w : World}, Tim tb bm w → Calls Tryz.prog 214 #[.pointer (some ⟨tb, 0, none⟩), .int .i64 la, .int .i64 og, .int .i64 mx] w fun e w' => e = .returned (.int .i64 cx) ∧ OnlyC tb bm w w' := fun T => by rw [← hcx]; exact at_tim T (by omega) (by omega) mx0
 have q11 : IntKind.i64.wrap (3 * wn) = 3 * wn := by rw [IntKind.wrap_i64]; omega
 have q12 := tdiv10 (x := 3 * wn) (by omega) 2
 have q13 : IntKind.i64.wrap (3 * wn / 2) = 3 * wn / 2 := by rw [IntKind.wrap_i64]; omega
 obtain ⟨tx, htx⟩ : ∃ x, tgW wn la og mx = x := ⟨_, rfl⟩
 have e11 : cubAtOf la og mx = cx := by rw [← hcx]; exact if_pos ⟨⟨by unfold w10B; simp only [Bool.and_eq_true, decide_eq_true_eq]; omega, by unfold w10B; simp only [Bool.and_eq_true, decide_eq_true_eq]; omega⟩, by unfold ms10B; simp only [Bool.and_eq_true, decide_eq_true_eq]; omega⟩
 have m8 : (if 3 * wn / 2 < cx then 3 * wn / 2 else cx) = tx := by rw [← htx]; unfold tgW; rw [e11]; split <;> omega
 rw [htx]
 obtain ⟨ux, hux⟩ : ∃ x, max wn fx = x := ⟨_, rfl⟩
 have m9 : (if wn < fx then fx else wn) = ux := by split <;> omega
 obtain ⟨zx, hzx⟩ : ∃ x, wnW wn fx tx = x := ⟨_, rfl⟩
 have m10 : (if ux < tx then tx else ux) = zx := by
   have t3 : tx ≤ 1000000000 := by rw [← m8]; split <;> omega
   rw [← hzx]
   unfold wnW
   split <;> omega
 rw [hzx]
 clear hzx hux htx e11 hcx hmx hdx hfx hQ
 go_enter Tryz.func210, Tryz.ntmps210
 go_wp2_with (first
   | go_in)
 refine region_late (S := fun w' => w'.cell? ⟨w.heap.size + 1, 8, none⟩ = some (.int .i64 fr) ∧ w'.cell? ⟨w.heap.size + 1, 1, none⟩ = some (.int .i64 wn)) 12 (by kernel_rfl) (⟨by go_simp, by go_simp⟩) (fun hS => ?_)
 refine lateR 0 rfl ?_
 refine lateR 1 rfl ?_
 refine lateR 2 rfl ?_
 refine lateR 3 rfl ?_
 refine lateR 4 rfl ?_
 refine lateR 5 rfl ?_
 refine lateR 6 rfl ?_
 refine lateR 7 rfl ?_
 refine lateR 8 rfl ?_
 refine lateR 9 rfl ?_
 refine lateR 10 rfl ?_
 refine lateR 11 rfl ?_
 refine late_last (by kernel_rfl) rfl (by kernel_rfl) (fun K hK => ?_)
 go_simp
 refine hK.out _ _ ?_
 try simp only [nrm]
 go_wp2
 refine wp_region_held_drew (S := fun w' => w'.cell? ⟨w.heap.size, 0, none⟩ = some (.int .i64 now) ∧ w'.cell? ⟨w.heap.size, 1, none⟩ = some (.pointer (some ⟨tb, 0, none⟩)) ∧ w'.cell? ⟨w.heap.size + 1, 0, none⟩ = some (.int .i64 k) ∧ w'.cell? ⟨w.heap.size + 1, 1, none⟩ = some (.int .i64 wn) ∧ w'.cell? ⟨w.heap.size + 1, 2, none⟩ = some (.int .i64 th) ∧ w'.cell? ⟨w.heap.size + 1, 3, none⟩ = some (.int .i64 fl) ∧ w'.cell? ⟨w.heap.size + 1, 4, none⟩ = some (.int .i64 ac) ∧ w'.cell? ⟨w.heap.size + 1, 5, none⟩ = some (.int .i64 la) ∧ w'.cell? ⟨w.heap.size + 1, 6, none⟩ = some (.int .i64 og) ∧ w'.cell? ⟨w.heap.size + 1, 7, none⟩ = some (.int .i64 st) ∧ w'.cell? ⟨w.heap.size + 1, 8, none⟩ = some (.int .i64 fx) ∧ w'.cell? ⟨w.heap.size + 1, 9, none⟩ = some (.bool sl)) (by kernel_rfl) (⟨by go_simp, by go_simp, by go_simp, by go_simp, by go_simp, by go_simp, by go_simp, by go_simp, by go_simp, by go_simp, by go_simp, by go_simp⟩) (fun hS => ?_)
 refine anyR 0 rfl ?_
 refine anyR 1 rfl ?_
 refine anyR 2 rfl ?_
 refine anyR 3 rfl ?_
 refine anyR 4 rfl ?_
 refine anyR 5 rfl ?_
 refine anyR 6 rfl ?_
 refine anyR 7 rfl ?_
 refine anyR 8 rfl ?_
 refine anyC 9 rfl fun K hK => ?_
 go_simp
 (refine (hO _).mono ?_; rintro e w4 ⟨rfl, hw4⟩; have hS4 : (fun w' => w'.cell? ⟨w.heap.size, 0, none⟩ = some (.int .i64 now) ∧ w'.cell? ⟨w.heap.size, 1, none⟩ = some (.pointer (some ⟨tb, 0, none⟩)) ∧ w'.cell? ⟨w.heap.size + 1, 0, none⟩ = some (.int .i64 k) ∧ w'.cell? ⟨w.heap.size + 1, 1, none⟩ = some (.int .i64 wn) ∧ w'.cell? ⟨w.heap.size + 1, 2, none⟩ = some (.int .i64 th) ∧ w'.cell? ⟨w.heap.size + 1, 3, none⟩ = some (.int .i64 fl) ∧ w'.cell? ⟨w.heap.size + 1, 4, none⟩ = some (.int .i64 ac) ∧ w'.cell? ⟨w.heap.size + 1, 5, none⟩ = some (.int .i64 la) ∧ w'.cell? ⟨w.heap.size + 1, 6, none⟩ = some (.int .i64 og) ∧ w'.cell? ⟨w.heap.size + 1, 7, none⟩ = some (.int .i64 st) ∧ w'.cell? ⟨w.heap.size + 1, 8, none⟩ = some (.int .i64 fx) ∧ w'.cell? ⟨w.heap.size + 1, 9, none⟩ = some (.bool sl)) w4 := (by rw [hw4]; exact ⟨by go_simp, by go_simp, by go_simp, by go_simp, by go_simp, by go_simp, by go_simp, by go_simp, by go_simp, by go_simp, by go_simp, by go_simp⟩); have hR4 : (fun w' : World => w'.cell? ⟨w.heap.size + 1 + 1, 0, none⟩ = some (.int .i64 0) ∧ w'.cell? ⟨w.heap.size + 1 + 1, 1, none⟩ = some (.int .i64 0) ∧ w'.cell? ⟨w.heap.size + 1 + 1, 2, none⟩ = some (.int .i64 0) ∧ w'.cell? ⟨w.heap.size + 1 + 1, 3, none⟩ = some (.int .i64 0) ∧ w'.cell? ⟨w.heap.size + 1 + 1, 4, none⟩ = some (.int .i64 0) ∧ w'.cell? ⟨w.heap.size + 1 + 1, 5, none⟩ = some (.int .i64 0) ∧ w'.cell? ⟨w.heap.size + 1 + 1, 6, none⟩ = some (.int .i64 0) ∧ w'.cell? ⟨w.heap.size + 1 + 1, 7, none⟩ = some (.int .i64 0) ∧ w'.cell? ⟨w.heap.size + 1 + 1, 8, none⟩ = some (.int .i64 0) ∧ w'.cell? ⟨w.heap.size + 1 + 1, 9, none⟩ = some (.bool false)) w4 := (by rw [hw4]; exact ⟨by go_simp, by go_simp, by go_simp, by go_simp, by go_simp, by go_simp, by go_simp, by go_simp, by go_simp, by go_simp⟩); have hF4 : ∀ o : Nat, w4.frozen? ⟨w.heap.size + 1, o, none⟩ = false ∧ w4.frozen? ⟨w.heap.size + 1 + 1, o, none⟩ = false := (by intro o; rw [hw4]; exact ⟨by go_simp, by go_simp⟩); have hb4 : Below w.heap.size w w4 := (by rw [hw4]; go_grown); have z4 : w.heap.size + 2 < w4.heap.size := (by rw [hw4]; simp; try omega); clear hw4)
 refine hK.out _ _ ‹_› fun _ => ?_
 try simp only [nrm]
 refine anyC 10 rfl fun K hK => ?_
 go_simp
 (refine (hA (T.below hb4)).mono ?_; rintro e w5 ⟨rfl, ho5⟩; have k5 : ∀ b o : Nat, b < w4.heap.size → b ≠ tb → b ≠ bm → w5.cell? ⟨b, o, none⟩ = w4.cell? ⟨b, o, none⟩ := (fun b o hb h1 h2 => ho5.cell (by exact hb) (by exact h1) (by exact h2)); have hS5 : (fun w' => w'.cell? ⟨w.heap.size, 0, none⟩ = some (.int .i64 now) ∧ w'.cell? ⟨w.heap.size, 1, none⟩ = some (.pointer (some ⟨tb, 0, none⟩)) ∧ w'.cell? ⟨w.heap.size + 1, 0, none⟩ = some (.int .i64 k) ∧ w'.cell? ⟨w.heap.size + 1, 1, none⟩ = some (.int .i64 wn) ∧ w'.cell? ⟨w.heap.size + 1, 2, none⟩ = some (.int .i64 th) ∧ w'.cell? ⟨w.heap.size + 1, 3, none⟩ = some (.int .i64 fl) ∧ w'.cell? ⟨w.heap.size + 1, 4, none⟩ = some (.int .i64 ac) ∧ w'.cell? ⟨w.heap.size + 1, 5, none⟩ = some (.int .i64 la) ∧ w'.cell? ⟨w.heap.size + 1, 6, none⟩ = some (.int .i64 og) ∧ w'.cell? ⟨w.heap.size + 1, 7, none⟩ = some (.int .i64 st) ∧ w'.cell? ⟨w.heap.size + 1, 8, none⟩ = some (.int .i64 fx) ∧ w'.cell? ⟨w.heap.size + 1, 9, none⟩ = some (.bool sl)) w5 := ⟨(k5 _ _ (by omega) (by omega) (by omega)).trans hS4.1, (k5 _ _ (by omega) (by omega) (by omega)).trans hS4.2.1, (k5 _ _ (by omega) (by omega) (by omega)).trans hS4.2.2.1, (k5 _ _ (by omega) (by omega) (by omega)).trans hS4.2.2.2.1, (k5 _ _ (by omega) (by omega) (by omega)).trans hS4.2.2.2.2.1, (k5 _ _ (by omega) (by omega) (by omega)).trans hS4.2.2.2.2.2.1, (k5 _ _ (by omega) (by omega) (by omega)).trans hS4.2.2.2.2.2.2.1, (k5 _ _ (by omega) (by omega) (by omega)).trans hS4.2.2.2.2.2.2.2.1, (k5 _ _ (by omega) (by omega) (by omega)).trans hS4.2.2.2.2.2.2.2.2.1, (k5 _ _ (by omega) (by omega) (by omega)).trans hS4.2.2.2.2.2.2.2.2.2.1, (k5 _ _ (by omega) (by omega) (by omega)).trans hS4.2.2.2.2.2.2.2.2.2.2.1, (k5 _ _ (by omega) (by omega) (by omega)).trans hS4.2.2.2.2.2.2.2.2.2.2.2⟩; have hR5 : (fun w' : World => w'.cell? ⟨w.heap.size + 1 + 1, 0, none⟩ = some (.int .i64 0) ∧ w'.cell? ⟨w.heap.size + 1 + 1, 1, none⟩ = some (.int .i64 0) ∧ w'.cell? ⟨w.heap.size + 1 + 1, 2, none⟩ = some (.int .i64 0) ∧ w'.cell? ⟨w.heap.size + 1 + 1, 3, none⟩ = some (.int .i64 0) ∧ w'.cell? ⟨w.heap.size + 1 + 1, 4, none⟩ = some (.int .i64 0) ∧ w'.cell? ⟨w.heap.size + 1 + 1, 5, none⟩ = some (.int .i64 0) ∧ w'.cell? ⟨w.heap.size + 1 + 1, 6, none⟩ = some (.int .i64 0) ∧ w'.cell? ⟨w.heap.size + 1 + 1, 7, none⟩ = some (.int .i64 0) ∧ w'.cell? ⟨w.heap.size + 1 + 1, 8, none⟩ = some (.int .i64 0) ∧ w'.cell? ⟨w.heap.size + 1 + 1, 9, none⟩ = some (.bool false)) w5 := ⟨(k5 _ _ (by omega) (by omega) (by omega)).trans hR4.1, (k5 _ _ (by omega) (by omega) (by omega)).trans hR4.2.1, (k5 _ _ (by omega) (by omega) (by omega)).trans hR4.2.2.1, (k5 _ _ (by omega) (by omega) (by omega)).trans hR4.2.2.2.1, (k5 _ _ (by omega) (by omega) (by omega)).trans hR4.2.2.2.2.1, (k5 _ _ (by omega) (by omega) (by omega)).trans hR4.2.2.2.2.2.1, (k5 _ _ (by omega) (by omega) (by omega)).trans hR4.2.2.2.2.2.2.1, (k5 _ _ (by omega) (by omega) (by omega)).trans hR4.2.2.2.2.2.2.2.1, (k5 _ _ (by omega) (by omega) (by omega)).trans hR4.2.2.2.2.2.2.2.2.1, (k5 _ _ (by omega) (by omega) (by omega)).trans hR4.2.2.2.2.2.2.2.2.2⟩; have hF5 : ∀ o : Nat, w5.frozen? ⟨w.heap.size + 1, o, none⟩ = false ∧ w5.frozen? ⟨w.heap.size + 1 + 1, o, none⟩ = false := (fun o => ⟨(ho5.frozen (by show w.heap.size + 1 < _; omega) (by show ¬ w.heap.size + 1 = _; omega) (by show ¬ w.heap.size + 1 = _; omega)).trans (hF4 o).1, (ho5.frozen (by show w.heap.size + 1 + 1 < _; omega) (by show ¬ w.heap.size + 1 + 1 = _; omega) (by show ¬ w.heap.size + 1 + 1 = _; omega)).trans (hF4 o).2⟩); have O5 := onlyC_first hb4 ho5; have z5 := Nat.lt_of_lt_of_le z4 ho5.size; clear k5 ho5 hb4 z4 hF4 hR4 hS4)
 refine hK.out _ _ ‹_› fun _ => ?_
 try simp only [nrm]
 refine anyR 11 rfl ?_
 refine wpAnyH_done (by kernel_rfl) ?_ _
 obtain ⟨s0, s1, s2, s3, s4, s5, s6, s7, s8, s9, s10, s11⟩ := hS5
 obtain ⟨p0, p1, p2, p3, p4, p5, p6, p7, p8, p9⟩ := hR5
 have f1 : ∀ o : Nat, w5.frozen? ⟨w.heap.size + 1, o, none⟩ = false := fun o => (hF5 o).1
 have f2 : ∀ o : Nat, w5.frozen? ⟨w.heap.size + 1 + 1, o, none⟩ = false := fun o => (hF5 o).2
 go_upto_region 6 with (fail)
 obtain ⟨w6, hw6⟩ : ∃ x, x = w5.setCell ⟨w.heap.size + 1, 1, none⟩ (.int .i64 zx) := ⟨_, rfl⟩
 rw [← hw6]
 have g0 : w6.cell? ⟨w.heap.size + 1, 0, none⟩ = some (.int .i64 k) := by rw [hw6]; exact (set_other4 (by decide)).trans s2
 have g1 : w6.cell? ⟨w.heap.size + 1, 1, none⟩ = some (.int .i64 zx) := by rw [hw6]; exact set_same4 _ s3
 have g2 : w6.cell? ⟨w.heap.size + 1, 2, none⟩ = some (.int .i64 th) := by rw [hw6]; exact (set_other4 (by decide)).trans s4
 have g3 : w6.cell? ⟨w.heap.size + 1, 3, none⟩ = some (.int .i64 fl) := by rw [hw6]; exact (set_other4 (by decide)).trans s5
 have g4 : w6.cell? ⟨w.heap.size + 1, 4, none⟩ = some (.int .i64 ac) := by rw [hw6]; exact (set_other4 (by decide)).trans s6
 have g5 : w6.cell? ⟨w.heap.size + 1, 5, none⟩ = some (.int .i64 la) := by rw [hw6]; exact (set_other4 (by decide)).trans s7
 have g6 : w6.cell? ⟨w.heap.size + 1, 6, none⟩ = some (.int .i64 og) := by rw [hw6]; exact (set_other4 (by decide)).trans s8
 have g7 : w6.cell? ⟨w.heap.size + 1, 7, none⟩ = some (.int .i64 st) := by rw [hw6]; exact (set_other4 (by decide)).trans s9
 have g8 : w6.cell? ⟨w.heap.size + 1, 8, none⟩ = some (.int .i64 fx) := by rw [hw6]; exact (set_other4 (by decide)).trans s10
 have g9 : w6.cell? ⟨w.heap.size + 1, 9, none⟩ = some (.bool sl) := by rw [hw6]; exact (set_other4 (by decide)).trans s11
 have u10 : w6.cell? ⟨w.heap.size + 1 + 1, 0, none⟩ = some (.int .i64 0) := by rw [hw6]; exact (World.cell?_setCell_other _ _ _ _ (by simp)).trans p0
 have u11 : w6.cell? ⟨w.heap.size + 1 + 1, 1, none⟩ = some (.int .i64 0) := by rw [hw6]; exact (World.cell?_setCell_other _ _ _ _ (by simp)).trans p1
 have u12 : w6.cell? ⟨w.heap.size + 1 + 1, 2, none⟩ = some (.int .i64 0) := by rw [hw6]; exact (World.cell?_setCell_other _ _ _ _ (by simp)).trans p2
 have u13 : w6.cell? ⟨w.heap.size + 1 + 1, 3, none⟩ = some (.int .i64 0) := by rw [hw6]; exact (World.cell?_setCell_other _ _ _ _ (by simp)).trans p3
 have u14 : w6.cell? ⟨w.heap.size + 1 + 1, 4, none⟩ = some (.int .i64 0) := by rw [hw6]; exact (World.cell?_setCell_other _ _ _ _ (by simp)).trans p4
 have u15 : w6.cell? ⟨w.heap.size + 1 + 1, 5, none⟩ = some (.int .i64 0) := by rw [hw6]; exact (World.cell?_setCell_other _ _ _ _ (by simp)).trans p5
 have u16 : w6.cell? ⟨w.heap.size + 1 + 1, 6, none⟩ = some (.int .i64 0) := by rw [hw6]; exact (World.cell?_setCell_other _ _ _ _ (by simp)).trans p6
 have u17 : w6.cell? ⟨w.heap.size + 1 + 1, 7, none⟩ = some (.int .i64 0) := by rw [hw6]; exact (World.cell?_setCell_other _ _ _ _ (by simp)).trans p7
 have u18 : w6.cell? ⟨w.heap.size + 1 + 1, 8, none⟩ = some (.int .i64 0) := by rw [hw6]; exact (World.cell?_setCell_other _ _ _ _ (by simp)).trans p8
 have u19 : w6.cell? ⟨w.heap.size + 1 + 1, 9, none⟩ = some (.bool false) := by rw [hw6]; exact (World.cell?_setCell_other _ _ _ _ (by simp)).trans p9
 have f6 : ∀ o : Nat, w6.frozen? ⟨w.heap.size + 1 + 1, o, none⟩ = false := by intro o; rw [hw6]; simpa using f2 o
 have O6 : OnlyC tb bm w w6 := by rw [hw6]; exact onlyC_then O5 (Below.setCell (Below.refl _ _) (by exact Nat.le_succ _) _)
 clear hw6 s0 s1 s2 s3 s4 s5 s6 s7 s8 s9 s10 s11 p0 p1 p2 p3 p4 p5 p6 p7 p8 p9 f1 f2 hF5 O5
 go_wp2
 obtain ⟨w9, e9, cs, far, fz, sz, hbel⟩ := over10 (.int .i64 k) (.int .i64 zx) (.int .i64 th) (.int .i64 fl) (.int .i64 ac) (.int .i64 la) (.int .i64 og) (.int .i64 st) (.int .i64 fx) (.bool sl) (w := w6) (g := w.heap.size + 1 + 1) u10 u11 u12 u13 u14 u15 u16 u17 u18 u19
 rw [← e9]
 refine bodyPost_ret (results_one rfl _ _ _ [.int .i64 k, .int .i64 zx, .int .i64 th, .int .i64 fl, .int .i64 ac, .int .i64 la, .int .i64 og, .int .i64 st, .int .i64 fx, .bool sl] rfl cs Tryz.underlying62 rfl (by kernel_rfl)) rfl ?_
 exact ⟨rfl, onlyC_then O6 (hbel _ (by omega))⟩
set_option maxHeartbeats 4000000 in
theorem along_new {k wn th fl ac la og fr n now : Int} {tb bm : Nat} (sl : Bool) (w : World) (T : Tim tb bm w) (h1 : ccB k wn th fl ac la og 0 fr = true) (h2 : n10B n = true) (h3 : timeB now = true) : Calls Tryz.prog 210 #[.agg #[.int .i64 now, .pointer (some ⟨tb, 0, none⟩)], .agg #[.int .i64 k, .int .i64 wn, .int .i64 th, .int .i64 fl, .int .i64 ac, .int .i64 la, .int .i64 og, .int .i64 0, .int .i64 fr, .bool sl], .int .i64 n] w fun e w' => e = .returned (.agg #[.int .i64 k, .int .i64 (wnW wn (frW wn wn n) (tgW wn (max la wn) wn (msOf (max 1 now) now))), .int .i64 th, .int .i64 fl, .int .i64 ac, .int .i64 (max la wn), .int .i64 wn, .int .i64 (max 1 now), .int .i64 (frW wn wn n), .bool sl]) ∧ OnlyC tb bm w w' := by
 obtain ⟨_, ⟨wn0, wn1⟩, ⟨th0, th1⟩, ⟨fl0, fl1⟩, _, ⟨la0, la1⟩, ⟨og0, og1⟩, ⟨st0, st1⟩, fr0, fr1⟩ := cc_num h1
 obtain ⟨n0, n1⟩ := n10_num h2
 have t0 : 0 ≤ now ∧ now ≤ 1000000000000000 := by
   have h3' := h3
   unfold timeB at h3'
   simp only [Bool.and_eq_true, decide_eq_true_eq] at h3'
   exact h3'
 obtain ⟨t0, t1⟩ := t0
 have htb := T.ht
 have hmb := T.hm
 obtain ⟨lx, hlx⟩ : ∃ x, max la wn = x := ⟨_, rfl⟩
 have m2 : (if la < wn then wn else la) = lx := by split <;> omega
 obtain ⟨sx, hsx⟩ : ∃ x, max 1 now = x := ⟨_, rfl⟩
 have m3 : (if now < 1 then 1 else now) = sx := by split <;> omega
 have sx0 : 0 ≤ sx ∧ sx ≤ 1000000000000000 := by omega
 have lx0 : 0 ≤ lx ∧ lx ≤ 1000000000 := by omega
 rw [hlx, hsx]
 have d0 : 0 ≤ n * 9 * 1500 := by omega
 have q1 : IntKind.i64.wrap (n * 9) = n * 9 := by rw [IntKind.wrap_i64]; omega
 have q2 : IntKind.i64.wrap (n * 9 * 1500) = n * 9 * 1500 := by rw [IntKind.wrap_i64]; omega
 have q3 : IntKind.i64.wrap (17 * wn) = 17 * wn := by rw [IntKind.wrap_i64]; omega
 have q4 : ¬ 17 * wn = 0 := by omega
 have q5 : (n * 9 * 1500).tdiv (17 * wn) = n * 9 * 1500 / (17 * wn) := tdiv10 d0 _
 obtain ⟨Q, hQ⟩ : ∃ x, n * 9 * 1500 / (17 * wn) = x := ⟨_, rfl⟩
 have Q0 : 0 ≤ Q := by rw [← hQ]; exact Int.ediv_nonneg d0 (by omega)
 have Q1 : Q ≤ 13500000000000 := by rw [← hQ]; exact Int.le_trans (Int.ediv_le_self _ d0) (by omega)
 rw [hQ] at q5
 have q6 : IntKind.i64.wrap Q = Q := by rw [IntKind.wrap_i64]; omega
 have q7 : IntKind.i64.wrap (wn + Q) = wn + Q := by rw [IntKind.wrap_i64]; omega
 obtain ⟨fx, hfx⟩ : ∃ x, frW wn wn n = x := ⟨_, rfl⟩
 have m4 : (if 1000000000 < wn + Q then 1000000000 else wn + Q) = fx := by rw [← hfx]; unfold frW; rw [hQ]; split <;> omega
 have fx1 : fx ≤ 1000000000 := by rw [← m4]; split <;> omega
 rw [hfx]
 obtain ⟨dx, hdx⟩ : ∃ x, max 0 (now - sx) = x := ⟨_, rfl⟩
 obtain ⟨mx, hmx⟩ : ∃ x, msOf sx now = x := ⟨_, rfl⟩
 have hO := fun w => onCurve_any (k := k) (wn := wn) (th := th) (fl := fl) (ac := ac) (la := lx) (og := wn) (st := sx) (fr := fx) (now := now) (dx := dx) (mx := mx) sl w (by omega) ⟨t0, t1⟩ (by split <;> omega) (by rw [← hmx]; unfold msOf; rw [hdx]; split <;> omega)
 have mx0 : 0 ≤ mx ∧ mx ≤ 1000000 := by rw [← hmx]; unfold msOf; omega
 rw [hmx]
 obtain ⟨cx, hcx⟩ : ∃ x, cubAt lx wn mx = x := ⟨_, rfl⟩
 have c1 : cx ≤ 1000000000 := by rw [← hcx]; unfold cubAt; omega
 have hA : ∀ {w : World}, Tim tb bm w → Calls Tryz.prog 214 #[.pointer (some ⟨tb, 0, none⟩), .int .i64 lx, .int .i64 wn, .int .i64 mx] w fun e w' => e = .returned (.int .i64 cx) ∧ OnlyC tb bm w w' := fun T => by rw [← hcx]; exact at_tim T (by omega) (by omega) mx0
 have q11 : IntKind.i64.wrap (3 * wn) = 3 * wn := by rw [IntKind.wrap_i64]; omega
 have q12 := tdiv10 (x := 3 * wn) (by omega) 2
 have q13 : IntKind.i64.wrap (3 * wn / 2) = 3 * wn / 2 := by rw [IntKind.wrap_i64]; omega
 obtain ⟨tx, htx⟩ : ∃ x, tgW wn lx wn mx = x := ⟨_, rfl⟩
 have e11 : cubAtOf lx wn mx = cx := by rw [← hcx]; exact if_pos ⟨⟨by unfold w10B; simp only [Bool.and_eq_true, decide_eq_true_eq]; omega, by unfold w10B; simp only [Bool.and_eq_true, decide_eq_true_eq]; omega⟩, by unfold ms10B; simp only [Bool.and_eq_true, decide_eq_true_eq]; omega⟩
 have m8 : (if 3 * wn / 2 < cx then 3 * wn / 2 else cx) = tx := by rw [← htx]; unfold tgW; rw [e11]; split <;> omega
 rw [htx]
 obtain ⟨ux, hux⟩ : ∃ x, max wn fx = x := ⟨_, rfl⟩
 have m9 : (if wn < fx then fx else wn) = ux := by split <;> omega
 obtain ⟨zx, hzx⟩ : ∃ x, wnW wn fx tx = x := ⟨_, rfl⟩
 have m10 : (if ux < tx then tx else ux) = zx := by
   have t3 : tx ≤ 1000000000 := by rw [← m8]; split <;> omega
   rw [← hzx]
   unfold wnW
   split <;> omega
 rw [hzx]
 clear hzx hux htx e11 hcx hmx hdx hfx hQ hlx hsx
 go_enter Tryz.func210, Tryz.ntmps210
 go_wp2_with (first
   | go_in)
 refine region_late (S := fun w' => w'.cell? ⟨w.heap.size + 1, 8, none⟩ = some (.int .i64 wn) ∧ w'.cell? ⟨w.heap.size + 1, 1, none⟩ = some (.int .i64 wn)) 12 (by kernel_rfl) (⟨by go_simp, by go_simp⟩) (fun hS => ?_)
 refine lateR 0 rfl ?_
 refine lateR 1 rfl ?_
 refine lateR 2 rfl ?_
 refine lateR 3 rfl ?_
 refine lateR 4 rfl ?_
 refine lateR 5 rfl ?_
 refine lateR 6 rfl ?_
 refine lateR 7 rfl ?_
 refine lateR 8 rfl ?_
 refine lateR 9 rfl ?_
 refine lateR 10 rfl ?_
 refine lateR 11 rfl ?_
 refine late_last (by kernel_rfl) rfl (by kernel_rfl) (fun K hK => ?_)
 go_simp
 refine hK.out _ _ ?_
 try simp only [nrm]
 go_wp2
 refine wp_region_held_drew (S := fun w' => w'.cell? ⟨w.heap.size, 0, none⟩ = some (.int .i64 now) ∧ w'.cell? ⟨w.heap.size, 1, none⟩ = some (.pointer (some ⟨tb, 0, none⟩)) ∧ w'.cell? ⟨w.heap.size + 1, 0, none⟩ = some (.int .i64 k) ∧ w'.cell? ⟨w.heap.size + 1, 1, none⟩ = some (.int .i64 wn) ∧ w'.cell? ⟨w.heap.size + 1, 2, none⟩ = some (.int .i64 th) ∧ w'.cell? ⟨w.heap.size + 1, 3, none⟩ = some (.int .i64 fl) ∧ w'.cell? ⟨w.heap.size + 1, 4, none⟩ = some (.int .i64 ac) ∧ w'.cell? ⟨w.heap.size + 1, 5, none⟩ = some (.int .i64 lx) ∧ w'.cell? ⟨w.heap.size + 1, 6, none⟩ = some (.int .i64 wn) ∧ w'.cell? ⟨w.heap.size + 1, 7, none⟩ = some (.int .i64 sx) ∧ w'.cell? ⟨w.heap.size + 1, 8, none⟩ = some (.int .i64 fx) ∧ w'.cell? ⟨w.heap.size + 1, 9, none⟩ = some (.bool sl)) (by kernel_rfl) (⟨by go_simp, by go_simp, by go_simp, by go_simp, by go_simp, by go_simp, by go_simp, by go_simp, by go_simp, by go_simp, by go_simp, by go_simp⟩) (fun hS => ?_)
 refine anyR 0 rfl ?_
 refine anyR 1 rfl ?_
 refine anyR 2 rfl ?_
 refine anyR 3 rfl ?_
 refine anyR 4 rfl ?_
 refine anyR 5 rfl ?_
 refine anyR 6 rfl ?_
 refine anyR 7 rfl ?_
 refine anyR 8 rfl ?_
 refine anyC 9 rfl fun K hK => ?_
 go_simp
 (refine (hO _).mono ?_; rintro e w4 ⟨rfl, hw4⟩; have hS4 : (fun w' => w'.cell? ⟨w.heap.size, 0, none⟩ = some (.int .i64 now) ∧ w'.cell? ⟨w.heap.size, 1, none⟩ = some (.pointer (some ⟨tb, 0, none⟩)) ∧ w'.cell? ⟨w.heap.size + 1, 0, none⟩ = some (.int .i64 k) ∧ w'.cell? ⟨w.heap.size + 1, 1, none⟩ = some (.int .i64 wn) ∧ w'.cell? ⟨w.heap.size + 1, 2, none⟩ = some (.int .i64 th) ∧ w'.cell? ⟨w.heap.size + 1, 3, none⟩ = some (.int .i64 fl) ∧ w'.cell? ⟨w.heap.size + 1, 4, none⟩ = some (.int .i64 ac) ∧ w'.cell? ⟨w.heap.size + 1, 5, none⟩ = some (.int .i64 lx) ∧ w'.cell? ⟨w.heap.size + 1, 6, none⟩ = some (.int .i64 wn) ∧ w'.cell? ⟨w.heap.size + 1, 7, none⟩ = some (.int .i64 sx) ∧ w'.cell? ⟨w.heap.size + 1, 8, none⟩ = some (.int .i64 fx) ∧ w'.cell? ⟨w.heap.size + 1, 9, none⟩ = some (.bool sl)) w4 := (by rw [hw4]; exact ⟨by go_simp, by go_simp, by go_simp, by go_simp, by go_simp, by go_simp, by go_simp, by go_simp, by go_simp, by go_simp, by go_simp, by go_simp⟩); have hR4 : (fun w' : World => w'.cell? ⟨w.heap.size + 1 + 1, 0, none⟩ = some (.int .i64 0) ∧ w'.cell? ⟨w.heap.size + 1 + 1, 1, none⟩ = some (.int .i64 0) ∧ w'.cell? ⟨w.heap.size + 1 + 1, 2, none⟩ = some (.int .i64 0) ∧ w'.cell? ⟨w.heap.size + 1 + 1, 3, none⟩ = some (.int .i64 0) ∧ w'.cell? ⟨w.heap.size + 1 + 1, 4, none⟩ = some (.int .i64 0) ∧ w'.cell? ⟨w.heap.size + 1 + 1, 5, none⟩ = some (.int .i64 0) ∧ w'.cell? ⟨w.heap.size + 1 + 1, 6, none⟩ = some (.int .i64 0) ∧ w'.cell? ⟨w.heap.size + 1 + 1, 7, none⟩ = some (.int .i64 0) ∧ w'.cell? ⟨w.heap.size + 1 + 1, 8, none⟩ = some (.int .i64 0) ∧ w'.cell? ⟨w.heap.size + 1 + 1, 9, none⟩ = some (.bool false)) w4 := (by rw [hw4]; exact ⟨by go_simp, by go_simp, by go_simp, by go_simp, by go_simp, by go_simp, by go_simp, by go_simp, by go_simp, by go_simp⟩); have hF4 : ∀ o : Nat, w4.frozen? ⟨w.heap.size + 1, o, none⟩ = false ∧ w4.frozen? ⟨w.heap.size + 1 + 1, o, none⟩ = false := (by intro o; rw [hw4]; exact ⟨by go_simp, by go_simp⟩); have hb4 : Below w.heap.size w w4 := (by rw [hw4]; go_grown); have z4 : w.heap.size + 2 < w4.heap.size := (by rw [hw4]; simp; try omega); clear hw4)
 refine hK.out _ _ ‹_› fun _ => ?_
 try simp only [nrm]
 refine anyC 10 rfl fun K hK => ?_
 go_simp
 (refine (hA (T.below hb4)).mono ?_; rintro e w5 ⟨rfl, ho5⟩; have k5 : ∀ b o : Nat, b < w4.heap.size → b ≠ tb → b ≠ bm → w5.cell? ⟨b, o, none⟩ = w4.cell? ⟨b, o, none⟩ := (fun b o hb h1 h2 => ho5.cell (by exact hb) (by exact h1) (by exact h2)); have hS5 : (fun w' => w'.cell? ⟨w.heap.size, 0, none⟩ = some (.int .i64 now) ∧ w'.cell? ⟨w.heap.size, 1, none⟩ = some (.pointer (some ⟨tb, 0, none⟩)) ∧ w'.cell? ⟨w.heap.size + 1, 0, none⟩ = some (.int .i64 k) ∧ w'.cell? ⟨w.heap.size + 1, 1, none⟩ = some (.int .i64 wn) ∧ w'.cell? ⟨w.heap.size + 1, 2, none⟩ = some (.int .i64 th) ∧ w'.cell? ⟨w.heap.size + 1, 3, none⟩ = some (.int .i64 fl) ∧ w'.cell? ⟨w.heap.size + 1, 4, none⟩ = some (.int .i64 ac) ∧ w'.cell? ⟨w.heap.size + 1, 5, none⟩ = some (.int .i64 lx) ∧ w'.cell? ⟨w.heap.size + 1, 6, none⟩ = some (.int .i64 wn) ∧ w'.cell? ⟨w.heap.size + 1, 7, none⟩ = some (.int .i64 sx) ∧ w'.cell? ⟨w.heap.size + 1, 8, none⟩ = some (.int .i64 fx) ∧ w'.cell? ⟨w.heap.size + 1, 9, none⟩ = some (.bool sl)) w5 := ⟨(k5 _ _ (by omega) (by omega) (by omega)).trans hS4.1, (k5 _ _ (by omega) (by omega) (by omega)).trans hS4.2.1, (k5 _ _ (by omega) (by omega) (by omega)).trans hS4.2.2.1, (k5 _ _ (by omega) (by omega) (by omega)).trans hS4.2.2.2.1, (k5 _ _ (by omega) (by omega) (by omega)).trans hS4.2.2.2.2.1, (k5 _ _ (by omega) (by omega) (by omega)).trans hS4.2.2.2.2.2.1, (k5 _ _ (by omega) (by omega) (by omega)).trans hS4.2.2.2.2.2.2.1, (k5 _ _ (by omega) (by omega) (by omega)).trans hS4.2.2.2.2.2.2.2.1, (k5 _ _ (by omega) (by omega) (by omega)).trans hS4.2.2.2.2.2.2.2.2.1, (k5 _ _ (by omega) (by omega) (by omega)).trans hS4.2.2.2.2.2.2.2.2.2.1, (k5 _ _ (by omega) (by omega) (by omega)).trans hS4.2.2.2.2.2.2.2.2.2.2.1, (k5 _ _ (by omega) (by omega) (by omega)).trans hS4.2.2.2.2.2.2.2.2.2.2.2⟩; have hR5 : (fun w' : World => w'.cell? ⟨w.heap.size + 1 + 1, 0, none⟩ = some (.int .i64 0) ∧ w'.cell? ⟨w.heap.size + 1 + 1, 1, none⟩ = some (.int .i64 0) ∧ w'.cell? ⟨w.heap.size + 1 + 1, 2, none⟩ = some (.int .i64 0) ∧ w'.cell? ⟨w.heap.size + 1 + 1, 3, none⟩ = some (.int .i64 0) ∧ w'.cell? ⟨w.heap.size + 1 + 1, 4, none⟩ = some (.int .i64 0) ∧ w'.cell? ⟨w.heap.size + 1 + 1, 5, none⟩ = some (.int .i64 0) ∧ w'.cell? ⟨w.heap.size + 1 + 1, 6, none⟩ = some (.int .i64 0) ∧ w'.cell? ⟨w.heap.size + 1 + 1, 7, none⟩ = some (.int .i64 0) ∧ w'.cell? ⟨w.heap.size + 1 + 1, 8, none⟩ = some (.int .i64 0) ∧ w'.cell? ⟨w.heap.size + 1 + 1, 9, none⟩ = some (.bool false)) w5 := ⟨(k5 _ _ (by omega) (by omega) (by omega)).trans hR4.1, (k5 _ _ (by omega) (by omega) (by omega)).trans hR4.2.1, (k5 _ _ (by omega) (by omega) (by omega)).trans hR4.2.2.1, (k5 _ _ (by omega) (by omega) (by omega)).trans hR4.2.2.2.1, (k5 _ _ (by omega) (by omega) (by omega)).trans hR4.2.2.2.2.1, (k5 _ _ (by omega) (by omega) (by omega)).trans hR4.2.2.2.2.2.1, (k5 _ _ (by omega) (by omega) (by omega)).trans hR4.2.2.2.2.2.2.1, (k5 _ _ (by omega) (by omega) (by omega)).trans hR4.2.2.2.2.2.2.2.1, (k5 _ _ (by omega) (by omega) (by omega)).trans hR4.2.2.2.2.2.2.2.2.1, (k5 _ _ (by omega) (by omega) (by omega)).trans hR4.2.2.2.2.2.2.2.2.2⟩; have hF5 : ∀ o : Nat, w5.frozen? ⟨w.heap.size + 1, o, none⟩ = false ∧ w5.frozen? ⟨w.heap.size + 1 + 1, o, none⟩ = false := (fun o => ⟨(ho5.frozen (by show w.heap.size + 1 < _; omega) (by show ¬ w.heap.size + 1 = _; omega) (by show ¬ w.heap.size + 1 = _; omega)).trans (hF4 o).1, (ho5.frozen (by show w.heap.size + 1 + 1 < _; omega) (by show ¬ w.heap.size + 1 + 1 = _; omega) (by show ¬ w.heap.size + 1 + 1 = _; omega)).trans (hF4 o).2⟩); have O5 := onlyC_first hb4 ho5; have z5 := Nat.lt_of_lt_of_le z4 ho5.size; clear k5 ho5 hb4 z4 hF4 hR4 hS4)
 refine hK.out _ _ ‹_› fun _ => ?_
 try simp only [nrm]
 refine anyR 11 rfl ?_
 refine wpAnyH_done (by kernel_rfl) ?_ _
 obtain ⟨s0, s1, s2, s3, s4, s5, s6, s7, s8, s9, s10, s11⟩ := hS5
 obtain ⟨p0, p1, p2, p3, p4, p5, p6, p7, p8, p9⟩ := hR5
 have f1 : ∀ o : Nat, w5.frozen? ⟨w.heap.size + 1, o, none⟩ = false := fun o => (hF5 o).1
 have f2 : ∀ o : Nat, w5.frozen? ⟨w.heap.size + 1 + 1, o, none⟩ = false := fun o => (hF5 o).2
 go_upto_region 6 with (fail)
 obtain ⟨w6, hw6⟩ : ∃ x, x = w5.setCell ⟨w.heap.size + 1, 1, none⟩ (.int .i64 zx) := ⟨_, rfl⟩
 rw [← hw6]
 have g0 : w6.cell? ⟨w.heap.size + 1, 0, none⟩ = some (.int .i64 k) := by rw [hw6]; exact (set_other4 (by decide)).trans s2
 have g1 : w6.cell? ⟨w.heap.size + 1, 1, none⟩ = some (.int .i64 zx) := by rw [hw6]; exact set_same4 _ s3
 have g2 : w6.cell? ⟨w.heap.size + 1, 2, none⟩ = some (.int .i64 th) := by rw [hw6]; exact (set_other4 (by decide)).trans s4
 have g3 : w6.cell? ⟨w.heap.size + 1, 3, none⟩ = some (.int .i64 fl) := by rw [hw6]; exact (set_other4 (by decide)).trans s5
 have g4 : w6.cell? ⟨w.heap.size + 1, 4, none⟩ = some (.int .i64 ac) := by rw [hw6]; exact (set_other4 (by decide)).trans s6
 have g5 : w6.cell? ⟨w.heap.size + 1, 5, none⟩ = some (.int .i64 lx) := by rw [hw6]; exact (set_other4 (by decide)).trans s7
 have g6 : w6.cell? ⟨w.heap.size + 1, 6, none⟩ = some (.int .i64 wn) := by rw [hw6]; exact (set_other4 (by decide)).trans s8
 have g7 : w6.cell? ⟨w.heap.size + 1, 7, none⟩ = some (.int .i64 sx) := by rw [hw6]; exact (set_other4 (by decide)).trans s9
 have g8 : w6.cell? ⟨w.heap.size + 1, 8, none⟩ = some (.int .i64 fx) := by rw [hw6]; exact (set_other4 (by decide)).trans s10
 have g9 : w6.cell? ⟨w.heap.size + 1, 9, none⟩ = some (.bool sl) := by rw [hw6]; exact (set_other4 (by decide)).trans s11
 have u10 : w6.cell? ⟨w.heap.size + 1 + 1, 0, none⟩ = some (.int .i64 0) := by rw [hw6]; exact (World.cell?_setCell_other _ _ _ _ (by simp)).trans p0
 have u11 : w6.cell? ⟨w.heap.size + 1 + 1, 1, none⟩ = some (.int .i64 0) := by rw [hw6]; exact (World.cell?_setCell_other _ _ _ _ (by simp)).trans p1
 have u12 : w6.cell? ⟨w.heap.size + 1 + 1, 2, none⟩ = some (.int .i64 0) := by rw [hw6]; exact (World.cell?_setCell_other _ _ _ _ (by simp)).trans p2
 have u13 : w6.cell? ⟨w.heap.size + 1 + 1, 3, none⟩ = some (.int .i64 0) := by rw [hw6]; exact (World.cell?_setCell_other _ _ _ _ (by simp)).trans p3
 have u14 : w6.cell? ⟨w.heap.size + 1 + 1, 4, none⟩ = some (.int .i64 0) := by rw [hw6]; exact (World.cell?_setCell_other _ _ _ _ (by simp)).trans p4
 have u15 : w6.cell? ⟨w.heap.size + 1 + 1, 5, none⟩ = some (.int .i64 0) := by rw [hw6]; exact (World.cell?_setCell_other _ _ _ _ (by simp)).trans p5
 have u16 : w6.cell? ⟨w.heap.size + 1 + 1, 6, none⟩ = some (.int .i64 0) := by rw [hw6]; exact (World.cell?_setCell_other _ _ _ _ (by simp)).trans p6
 have u17 : w6.cell? ⟨w.heap.size + 1 + 1, 7, none⟩ = some (.int .i64 0) := by rw [hw6]; exact (World.cell?_setCell_other _ _ _ _ (by simp)).trans p7
 have u18 : w6.cell? ⟨w.heap.size + 1 + 1, 8, none⟩ = some (.int .i64 0) := by rw [hw6]; exact (World.cell?_setCell_other _ _ _ _ (by simp)).trans p8
 have u19 : w6.cell? ⟨w.heap.size + 1 + 1, 9, none⟩ = some (.bool false) := by rw [hw6]; exact (World.cell?_setCell_other _ _ _ _ (by simp)).trans p9
 have f6 : ∀ o : Nat, w6.frozen? ⟨w.heap.size + 1 + 1, o, none⟩ = false := by intro o; rw [hw6]; simpa using f2 o
 have O6 : OnlyC tb bm w w6 := by rw [hw6]; exact onlyC_then O5 (Below.setCell (Below.refl _ _) (by exact Nat.le_succ _) _)
 clear hw6 s0 s1 s2 s3 s4 s5 s6 s7 s8 s9 s10 s11 p0 p1 p2 p3 p4 p5 p6 p7 p8 p9 f1 f2 hF5 O5
 go_wp2
 obtain ⟨w9, e9, cs, far, fz, sz, hbel⟩ := over10 (.int .i64 k) (.int .i64 zx) (.int .i64 th) (.int .i64 fl) (.int .i64 ac) (.int .i64 lx) (.int .i64 wn) (.int .i64 sx) (.int .i64 fx) (.bool sl) (w := w6) (g := w.heap.size + 1 + 1) u10 u11 u12 u13 u14 u15 u16 u17 u18 u19
 rw [← e9]
 refine bodyPost_ret (results_one rfl _ _ _ [.int .i64 k, .int .i64 zx, .int .i64 th, .int .i64 fl, .int .i64 ac, .int .i64 lx, .int .i64 wn, .int .i64 sx, .int .i64 fx, .bool sl] rfl cs Tryz.underlying62 rfl (by kernel_rfl)) rfl ?_
 exact ⟨rfl, onlyC_then O6 (hbel _ (by omega))⟩
end Go.Proofs.YtkohlmloobojfaaGreat
