/- Lemmas on the way, of several texts: ImplAck, AckBoth. -/
import Derived.Test.YtkohlmloobojfaaGreatGrpAP
import Derived.Stop.Asserts
import Derived.Test.YtkohlmloobojfaaGreatGrpAO
namespace Go.Proofs.YtkohlmloobojfaaGreat
open Go.ChangeShapes Go.WideShapes Go.ChangeAt Go.RowKit
set_option maxRecDepth 100000
set_option linter.unusedVariables false
set_option linter.unusedSimpArgs false
theorem hasAlong (v : Value) (xT : TypeId) (w : World) : (Instr.typeAssert (.iface 190 v) xT 201 true).run Tryz.prog w = .ok (.tuple #[.iface 190 v, .bool true]) w := run_typeAssert_hasB Tryz.underlying201 (by kernel_rfl) v xT w
set_option maxHeartbeats 4000000 in
theorem along_any {k wn th fl ac la og st fr n : Int} (sl : Bool) (w : World) (hw : 3000 ≤ wn ∧ wn ≤ 1000000000) (ha : 0 ≤ ac ∧ ac ≤ 1000000000) (hn : 1 ≤ n ∧ n ≤ 1000000000) : Calls Tryz.prog 236 #[.agg #[], .agg #[.int .i64 k, .int .i64 wn, .int .i64 th, .int .i64 fl, .int .i64 ac, .int .i64 la, .int .i64 og, .int .i64 st, .int .i64 fr, .bool sl], .int .i64 n] w fun e w' => e = .returned (.agg #[.int .i64 k, .int .i64 ((stepA (ac + n) wn).2), .int .i64 th, .int .i64 fl, .int .i64 ((stepA (ac + n) wn).1), .int .i64 la, .int .i64 og, .int .i64 st, .int .i64 fr, .bool sl]) ∧ Below w.heap.size w w' := by
 have r2 : IntKind.i64.wrap (ac + n) = ac + n := by rw [IntKind.wrap_i64]; omega
 obtain ⟨R, hR⟩ : ∃ R, stepA (ac + n) wn = R := ⟨_, rfl⟩
 rw [hR]
 have HR : Hid (stepA (ac + n) wn = R) := hR
 clear hR
 go_enter Tryz.func236, Tryz.ntmps236
 go_wp2
 go_loopg [] ((ac + n).toNat + 1) (fun kk wr => ∃ a x : Int, wr = ((w.alloc (.cells #[] 190)).alloc (.cells #[.int .i64 k, .int .i64 x, .int .i64 th, .int .i64 fl, .int .i64 a, .int .i64 la, .int .i64 og, .int .i64 st, .int .i64 fr, .bool sl] 62)).alloc (.cells #[.int .i64 0, .int .i64 0, .int .i64 0, .int .i64 0, .int .i64 0, .int .i64 0, .int .i64 0, .int .i64 0, .int .i64 0, .bool false] 62) ∧ 0 ≤ a ∧ a ≤ 2000000000 ∧ 3000 ≤ x ∧ x ≤ 1000000000 ∧ a.toNat < kk ∧ Hid (stepA a x = R))
 case atStart => exact ⟨ac + n, wn, rfl, by omega, by omega, by omega, by omega, by omega, HR⟩
 case round =>
   obtain ⟨a, x, rfl, a0, a1, x0, x1, hk, HS⟩ := hrel
   clear HR
   by_cases hx : x ≤ a
   · have s1 : IntKind.i64.wrap (a - x) = a - x := by rw [IntKind.wrap_i64]; omega
     have s2 : IntKind.i64.wrap (x + 1500) = x + 1500 := by rw [IntKind.wrap_i64]; omega
     have hst := (stepA_yes x0 hx).symm.trans HS.out
     rcases Int.lt_or_le (x + 1500) 1000000000 with hm | hm
     · rw [show min 1000000000 (x + 1500) = x + 1500 by omega] at hst
       go_wp2
       go_roundg (gk - 1)
       case measure => omega
       case rel => exact ⟨a - x, x + 1500, rfl, by omega, by omega, by omega, by omega, by omega, hst⟩
     · rw [show min 1000000000 (x + 1500) = 1000000000 by omega] at hst
       rcases Int.lt_or_eq_of_le hm with hm' | hm'
       · go_wp2
         go_roundg (gk - 1)
         case measure => omega
         case rel => exact ⟨a - x, 1000000000, rfl, by omega, by omega, by omega, by omega, by omega, hst⟩
       · obtain rfl : x = 999998500 := by omega
         go_wp2
         go_roundg (gk - 1)
         case measure => omega
         case rel => exact ⟨a - 999998500, 1000000000, rfl, by omega, by omega, by omega, by omega, by omega, hst⟩
   · have hx' : ¬ a ≥ x := by omega
     obtain rfl : (a, x) = R := (stepA_no (by omega)).symm.trans HS.out
     clear HS
     rcases Int.lt_or_eq_of_le x1 with hl | rfl
     · go_wp2
       refine bodyPost_ret (results_one rfl _ _ _ [.int .i64 k, .int .i64 x, .int .i64 th, .int .i64 fl, .int .i64 a, .int .i64 la, .int .i64 og, .int .i64 st, .int .i64 fr, .bool sl] rfl (cells_ten (by go_simp) (by go_simp) (by go_simp) (by go_simp) (by go_simp) (by go_simp) (by go_simp) (by go_simp) (by go_simp) (by go_simp)) Tryz.underlying62 rfl (by kernel_rfl)) rfl ?_
       exact ⟨rfl, by go_grown⟩
     · go_wp2
       refine bodyPost_ret (results_one rfl _ _ _ [.int .i64 k, .int .i64 1000000000, .int .i64 th, .int .i64 fl, .int .i64 a, .int .i64 la, .int .i64 og, .int .i64 st, .int .i64 fr, .bool sl] rfl (cells_ten (by go_simp) (by go_simp) (by go_simp) (by go_simp) (by go_simp) (by go_simp) (by go_simp) (by go_simp) (by go_simp) (by go_simp)) Tryz.underlying62 rfl (by kernel_rfl)) rfl ?_
       exact ⟨rfl, by go_grown⟩
set_option maxHeartbeats 4000000 in
theorem throughA {k wn th fl ac la og st fr n : Int} (sl : Bool) (w : World) (hw : 3000 ≤ wn ∧ wn ≤ 1000000000) (ha : 0 ≤ ac ∧ ac ≤ 1000000000) (hn : 1 ≤ n ∧ n ≤ 1000000000) (hf : 0 ≤ fl ∧ fl ≤ 1000000000) (h3 : th ≤ wn) (h6 : fl - n < 0) : Calls Tryz.prog 180 #[.iface 190 (.agg #[]), .agg #[.int .i64 k, .int .i64 wn, .int .i64 th, .int .i64 fl, .int .i64 ac, .int .i64 la, .int .i64 og, .int .i64 st, .int .i64 fr, .bool sl], .int .i64 n] w fun e w' => e = .returned (.agg #[.int .i64 k, .int .i64 ((stepA (ac + n) wn).2), .int .i64 th, .int .i64 0, .int .i64 ((stepA (ac + n) wn).1), .int .i64 la, .int .i64 og, .int .i64 st, .int .i64 fr, .bool sl]) ∧ Below w.heap.size w w' := by
 have r1 : IntKind.i64.wrap (fl - n) = fl - n := by rw [IntKind.wrap_i64]; omega
 have h3' : ¬ wn < th := by omega
 have hal := hasAlong (.agg #[])
 go_enter Tryz.func180, Tryz.ntmps180
 go_wp2_with (first
   | (go_at_call 236; refine (along_any sl _ hw ha hn).mono ?_; rintro e w2 ⟨rfl, hb2⟩; have hbw : Below w.heap.size w w2 := below_two (by go_grown) hb2; have kc := below_cells4 hb2; have kf := below_frozens4 hb2; have zl := hb2.size; (try simp at zl))
   | go_in)
 obtain ⟨R1, R2, hR⟩ : ∃ R1 R2, stepA (ac + n) wn = (R1, R2) := ⟨_, _, rfl⟩
 rw [hR]
 simp only
 obtain ⟨w9, e9, cs, far, fz, sz, hbel⟩ := over10 (.int .i64 (k)) (.int .i64 (R2)) (.int .i64 (th)) (.int .i64 (0)) (.int .i64 (R1)) (.int .i64 (la)) (.int .i64 (og)) (.int .i64 (st)) (.int .i64 (fr)) (.bool sl) (w := w2) (g := w.heap.size + 1) (u0 := .int .i64 0) (u1 := .int .i64 0) (u2 := .int .i64 0) (u3 := .int .i64 0) (u4 := .int .i64 0) (u5 := .int .i64 0) (u6 := .int .i64 0) (u7 := .int .i64 0) (u8 := .int .i64 0) (u9 := .bool false) (by go_simp) (by go_simp) (by go_simp) (by go_simp) (by go_simp) (by go_simp) (by go_simp) (by go_simp) (by go_simp) (by go_simp)
 rw [← e9]
 refine bodyPost_ret (results_one rfl _ _ _ [.int .i64 k, .int .i64 R2, .int .i64 th, .int .i64 0, .int .i64 R1, .int .i64 la, .int .i64 og, .int .i64 st, .int .i64 fr, .bool sl] rfl cs Tryz.underlying62 rfl (by kernel_rfl)) rfl ?_
 exact ⟨rfl, hbw.trans (hbel _ (by omega))⟩
set_option maxHeartbeats 4000000 in
theorem throughB {k wn th fl ac la og st fr n : Int} (sl : Bool) (w : World) (hw : 3000 ≤ wn ∧ wn ≤ 1000000000) (ha : 0 ≤ ac ∧ ac ≤ 1000000000) (hn : 1 ≤ n ∧ n ≤ 1000000000) (hf : 0 ≤ fl ∧ fl ≤ 1000000000) (h3 : th ≤ wn) (h6 : 0 ≤ fl - n) : Calls Tryz.prog 180 #[.iface 190 (.agg #[]), .agg #[.int .i64 k, .int .i64 wn, .int .i64 th, .int .i64 fl, .int .i64 ac, .int .i64 la, .int .i64 og, .int .i64 st, .int .i64 fr, .bool sl], .int .i64 n] w fun e w' => e = .returned (.agg #[.int .i64 k, .int .i64 ((stepA (ac + n) wn).2), .int .i64 th, .int .i64 (fl - n), .int .i64 ((stepA (ac + n) wn).1), .int .i64 la, .int .i64 og, .int .i64 st, .int .i64 fr, .bool sl]) ∧ Below w.heap.size w w' := by
 have r1 : IntKind.i64.wrap (fl - n) = fl - n := by rw [IntKind.wrap_i64]; omega
 have h3' : ¬ wn < th := by omega
 have hal := hasAlong (.agg #[])
 go_enter Tryz.func180, Tryz.ntmps180
 go_wp2_with (first
   | (go_at_call 236; refine (along_any sl _ hw ha hn).mono ?_; rintro e w2 ⟨rfl, hb2⟩; have hbw : Below w.heap.size w w2 := below_two (by go_grown) hb2; have kc := below_cells4 hb2; have kf := below_frozens4 hb2; have zl := hb2.size; (try simp at zl))
   | go_in)
 obtain ⟨R1, R2, hR⟩ : ∃ R1 R2, stepA (ac + n) wn = (R1, R2) := ⟨_, _, rfl⟩
 rw [hR]
 simp only
 obtain ⟨w9, e9, cs, far, fz, sz, hbel⟩ := over10 (.int .i64 (k)) (.int .i64 (R2)) (.int .i64 (th)) (.int .i64 (fl - n)) (.int .i64 (R1)) (.int .i64 (la)) (.int .i64 (og)) (.int .i64 (st)) (.int .i64 (fr)) (.bool sl) (w := w2) (g := w.heap.size + 1) (u0 := .int .i64 0) (u1 := .int .i64 0) (u2 := .int .i64 0) (u3 := .int .i64 0) (u4 := .int .i64 0) (u5 := .int .i64 0) (u6 := .int .i64 0) (u7 := .int .i64 0) (u8 := .int .i64 0) (u9 := .bool false) (by go_simp) (by go_simp) (by go_simp) (by go_simp) (by go_simp) (by go_simp) (by go_simp) (by go_simp) (by go_simp) (by go_simp)
 rw [← e9]
 refine bodyPost_ret (results_one rfl _ _ _ [.int .i64 k, .int .i64 R2, .int .i64 th, .int .i64 (fl - n), .int .i64 R1, .int .i64 la, .int .i64 og, .int .i64 st, .int .i64 fr, .bool sl] rfl cs Tryz.underlying62 rfl (by kernel_rfl)) rfl ?_
 exact ⟨rfl, hbw.trans (hbel _ (by omega))⟩
theorem through_any {k wn th fl ac la og st fr n : Int} (sl : Bool) (w : World) (hw : 3000 ≤ wn ∧ wn ≤ 1000000000) (ha : 0 ≤ ac ∧ ac ≤ 1000000000) (hn : 1 ≤ n ∧ n ≤ 1000000000) (hf : 0 ≤ fl ∧ fl ≤ 1000000000) (h3 : th ≤ wn) : Calls Tryz.prog 180 #[.iface 190 (.agg #[]), .agg #[.int .i64 k, .int .i64 wn, .int .i64 th, .int .i64 fl, .int .i64 ac, .int .i64 la, .int .i64 og, .int .i64 st, .int .i64 fr, .bool sl], .int .i64 n] w fun e w' => e = .returned (.agg #[.int .i64 k, .int .i64 ((stepA (ac + n) wn).2), .int .i64 th, .int .i64 (max 0 (fl - n)), .int .i64 ((stepA (ac + n) wn).1), .int .i64 la, .int .i64 og, .int .i64 st, .int .i64 fr, .bool sl]) ∧ Below w.heap.size w w' := by
 rcases Int.lt_or_le (fl - n) 0 with h6 | h6
 · rw [show max 0 (fl - n) = 0 by omega]
   exact throughA sl w hw ha hn hf h3 h6
 · rw [show max 0 (fl - n) = fl - n by omega]
   exact throughB sl w hw ha hn hf h3 h6
set_option maxHeartbeats 4000000 in
theorem implRenoAck_step {k wn th fl ac la og st fr n : Int} (sl : Bool) (w : World) (h1 : ccB k wn th fl ac la og st fr = true) (h2 : n10B n = true) (h3 : th ≤ wn) : Calls Tryz.prog 161 #[.agg #[.int .i64 k, .int .i64 wn, .int .i64 th, .int .i64 fl, .int .i64 ac, .int .i64 la, .int .i64 og, .int .i64 st, .int .i64 fr, .bool sl], .int .i64 n] w fun e w' => e = .returned (.agg #[.int .i64 k, .int .i64 ((stepA (ac + n) wn).2), .int .i64 th, .int .i64 (max 0 (fl - n)), .int .i64 ((stepA (ac + n) wn).1), .int .i64 la, .int .i64 og, .int .i64 st, .int .i64 fr, .bool sl]) ∧ Below w.heap.size w w' := by
 obtain ⟨_, hw, _, hf, ha, _⟩ := cc_num h1
 have hn := n10_num h2
 go_enter Tryz.func161, Tryz.ntmps161
 go_wp2_with (first
   | (go_at_call 140; refine (implCcOk_is h1 _ _).mono ?_; rintro e w3 ⟨rfl, rfl⟩)
   | (go_at_call 77; refine (iN_is h2 _).mono ?_; rintro e w3 ⟨rfl, rfl⟩)
   | (go_at_call 180; refine (through_any sl _ hw ha hn hf h3).mono ?_; rintro e w2 ⟨rfl, hb2⟩; have hbw : Below w.heap.size w w2 := below_two (by go_grown) hb2; have kc := below_cells4 hb2; have kf := below_frozens4 hb2; have zl := hb2.size; (try simp at zl)))
 obtain ⟨R1, R2, hR⟩ : ∃ R1 R2, stepA (ac + n) wn = (R1, R2) := ⟨_, _, rfl⟩
 rw [hR]
 simp only
 obtain ⟨w9, e9, cs, far, fz, sz, hbel⟩ := over10 (.int .i64 (k)) (.int .i64 (R2)) (.int .i64 (th)) (.int .i64 (max 0 (fl - n))) (.int .i64 (R1)) (.int .i64 (la)) (.int .i64 (og)) (.int .i64 (st)) (.int .i64 (fr)) (.bool sl) (w := w2) (g := w.heap.size + 1) (u0 := .int .i64 0) (u1 := .int .i64 0) (u2 := .int .i64 0) (u3 := .int .i64 0) (u4 := .int .i64 0) (u5 := .int .i64 0) (u6 := .int .i64 0) (u7 := .int .i64 0) (u8 := .int .i64 0) (u9 := .bool false) (by go_simp) (by go_simp) (by go_simp) (by go_simp) (by go_simp) (by go_simp) (by go_simp) (by go_simp) (by go_simp) (by go_simp)
 rw [← e9]
 refine bodyPost_ret (results_one rfl _ _ _ [.int .i64 k, .int .i64 R2, .int .i64 th, .int .i64 (max 0 (fl - n)), .int .i64 R1, .int .i64 la, .int .i64 og, .int .i64 st, .int .i64 fr, .bool sl] rfl cs Tryz.underlying62 rfl (by kernel_rfl)) rfl ?_
 exact ⟨rfl, hbw.trans (hbel _ (by omega))⟩
def ackIn (k wn th fl ac la og st fr : Int) (sl : Bool) (n : Int) : C10 := if wn < th then (if wn + n < th then ⟨k, wn + n, th, max 0 (fl - n), ac, la, og, st, fr, sl⟩ else ⟨k, th, th, max 0 (fl - n), ac, la, og, st, fr, false⟩) else ⟨k, (stepA (ac + n) wn).2, th, max 0 (fl - n), (stepA (ac + n) wn).1, la, og, st, fr, sl⟩
def ackC (k wn th fl ac la og st fr : Int) (sl : Bool) (n : Int) : C10 := if ccB k wn th fl ac la og st fr = true ∧ n10B n = true then ackIn k wn th fl ac la og st fr sl n else zeroC
theorem specRenoAck_any (k wn th fl ac la og st fr : Int) (sl : Bool) (n : Int) (w : World) : Calls Tryz.prog 52 #[.agg #[.int .i64 k, .int .i64 wn, .int .i64 th, .int .i64 fl, .int .i64 ac, .int .i64 la, .int .i64 og, .int .i64 st, .int .i64 fr, .bool sl], .int .i64 n] w fun e w' => e = .returned (.agg #[.int .i64 ((ackC k wn th fl ac la og st fr sl n).k), .int .i64 ((ackC k wn th fl ac la og st fr sl n).wn), .int .i64 ((ackC k wn th fl ac la og st fr sl n).th), .int .i64 ((ackC k wn th fl ac la og st fr sl n).fl), .int .i64 ((ackC k wn th fl ac la og st fr sl n).ac), .int .i64 ((ackC k wn th fl ac la og st fr sl n).la), .int .i64 ((ackC k wn th fl ac la og st fr sl n).og), .int .i64 ((ackC k wn th fl ac la og st fr sl n).st), .int .i64 ((ackC k wn th fl ac la og st fr sl n).fr), .bool (ackC k wn th fl ac la og st fr sl n).sl]) ∧ Below w.heap.size w w' := by
 cases h1 : ccB k wn th fl ac la og st fr
 · rw [show ackC k wn th fl ac la og st fr sl n = zeroC from if_neg (fun h => by rw [h1] at h; cases h.1)]
   exact specRenoAck_no1 sl w h1
 cases h2 : n10B n
 · rw [show ackC k wn th fl ac la og st fr sl n = zeroC from if_neg (fun h => by rw [h2] at h; cases h.2)]
   exact specRenoAck_no2 sl w h1 h2
 rw [show ackC k wn th fl ac la og st fr sl n = ackIn k wn th fl ac la og st fr sl n from if_pos ⟨h1, h2⟩]
 by_cases h3 : wn < th
 · by_cases h4 : wn + n < th
   · rw [show ackIn k wn th fl ac la og st fr sl n = ⟨k, wn + n, th, max 0 (fl - n), ac, la, og, st, fr, sl⟩ from (if_pos h3).trans (if_pos h4)]
     exact specRenoAck_rise sl w h1 h2 h3 h4
   · rw [show ackIn k wn th fl ac la og st fr sl n = ⟨k, th, th, max 0 (fl - n), ac, la, og, st, fr, false⟩ from (if_pos h3).trans (if_neg h4)]
     exact specRenoAck_top sl w h1 h2 h3 (by omega)
 · rw [show ackIn k wn th fl ac la og st fr sl n = ⟨k, (stepA (ac + n) wn).2, th, max 0 (fl - n), (stepA (ac + n) wn).1, la, og, st, fr, sl⟩ from if_neg h3]
   exact specRenoAck_step sl w h1 h2 (by omega)
theorem implRenoAck_any (k wn th fl ac la og st fr : Int) (sl : Bool) (n : Int) (w : World) : Calls Tryz.prog 161 #[.agg #[.int .i64 k, .int .i64 wn, .int .i64 th, .int .i64 fl, .int .i64 ac, .int .i64 la, .int .i64 og, .int .i64 st, .int .i64 fr, .bool sl], .int .i64 n] w fun e w' => e = .returned (.agg #[.int .i64 ((ackC k wn th fl ac la og st fr sl n).k), .int .i64 ((ackC k wn th fl ac la og st fr sl n).wn), .int .i64 ((ackC k wn th fl ac la og st fr sl n).th), .int .i64 ((ackC k wn th fl ac la og st fr sl n).fl), .int .i64 ((ackC k wn th fl ac la og st fr sl n).ac), .int .i64 ((ackC k wn th fl ac la og st fr sl n).la), .int .i64 ((ackC k wn th fl ac la og st fr sl n).og), .int .i64 ((ackC k wn th fl ac la og st fr sl n).st), .int .i64 ((ackC k wn th fl ac la og st fr sl n).fr), .bool (ackC k wn th fl ac la og st fr sl n).sl]) ∧ Below w.heap.size w w' := by
 cases h1 : ccB k wn th fl ac la og st fr
 · rw [show ackC k wn th fl ac la og st fr sl n = zeroC from if_neg (fun h => by rw [h1] at h; cases h.1)]
   exact implRenoAck_no1 sl w h1
 cases h2 : n10B n
 · rw [show ackC k wn th fl ac la og st fr sl n = zeroC from if_neg (fun h => by rw [h2] at h; cases h.2)]
   exact implRenoAck_no2 sl w h1 h2
 rw [show ackC k wn th fl ac la og st fr sl n = ackIn k wn th fl ac la og st fr sl n from if_pos ⟨h1, h2⟩]
 by_cases h3 : wn < th
 · by_cases h4 : wn + n < th
   · rw [show ackIn k wn th fl ac la og st fr sl n = ⟨k, wn + n, th, max 0 (fl - n), ac, la, og, st, fr, sl⟩ from (if_pos h3).trans (if_pos h4)]
     exact implRenoAck_rise sl w h1 h2 h3 h4
   · rw [show ackIn k wn th fl ac la og st fr sl n = ⟨k, th, th, max 0 (fl - n), ac, la, og, st, fr, false⟩ from (if_pos h3).trans (if_neg h4)]
     exact implRenoAck_top sl w h1 h2 h3 (by omega)
 · rw [show ackIn k wn th fl ac la og st fr sl n = ⟨k, (stepA (ac + n) wn).2, th, max 0 (fl - n), (stepA (ac + n) wn).1, la, og, st, fr, sl⟩ from if_neg h3]
   exact implRenoAck_step sl w h1 h2 (by omega)
end Go.Proofs.YtkohlmloobojfaaGreat
