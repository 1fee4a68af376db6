/- Lemmas on the way, of several texts: ImplThrough, ImplCubAck, CubBoth. -/
import Derived.Test.YtkohlmloobojfaaGreatGrpBD
import Derived.Stop.Asserts
import Derived.Test.YtkohlmloobojfaaGreatGrpAF
import Derived.Test.YtkohlmloobojfaaGreatGrpAO
import Derived.Handy
import Derived.Test.YtkohlmloobojfaaGreatGrpAT
namespace Go.Proofs.YtkohlmloobojfaaGreat
open Go.ChangeShapes Go.WideShapes Go.ChangeAt Go.RowKit Go.Maps
set_option maxRecDepth 100000
set_option linter.unusedVariables false
set_option linter.unusedSimpArgs false
open Go.ChangeShapes Go.WideShapes Go.ChangeAt Go.RowKit
theorem hasAlongC (v : Value) (xT : TypeId) (w : World) : (Instr.typeAssert (.iface 188 v) xT 201 true).run Tryz.prog w = .ok (.tuple #[.iface 188 v, .bool true]) w := run_typeAssert_hasB Tryz.underlying201 (by kernel_rfl) v xT w
set_option maxHeartbeats 4000000 in
theorem thr_rise {k wn th fl ac la og st fr n now gx : Int} {tb bm : Nat} (w : World) (hf : 0 ≤ fl ∧ fl ≤ 1000000000) (hn : 1 ≤ n ∧ n ≤ 1000000000) (hg : (if fl - n < 0 then 0 else fl - n) = gx) (hw : 3000 ≤ wn ∧ wn ≤ 1000000000) (ht : 3000 ≤ th ∧ th ≤ 1000000000) (h3 : wn < th) (h4 : wn + n < th) : Calls Tryz.prog 180 #[.iface 188 (.agg #[.int .i64 now, .pointer (some ⟨tb, 0, none⟩)]), .agg #[.int .i64 k, .int .i64 wn, .int .i64 th, .int .i64 fl, .int .i64 ac, .int .i64 la, .int .i64 og, .int .i64 st, .int .i64 fr, .bool true], .int .i64 n] w fun e w' => e = .returned (.agg #[.int .i64 k, .int .i64 (wn + n), .int .i64 th, .int .i64 gx, .int .i64 ac, .int .i64 la, .int .i64 og, .int .i64 st, .int .i64 fr, .bool true]) ∧ OnlyC tb bm w w' := by
 have r1 : IntKind.i64.wrap (fl - n) = fl - n := by rw [IntKind.wrap_i64]; omega
 have r3 : IntKind.i64.wrap (wn + n) = wn + n := by rw [IntKind.wrap_i64]; omega
 have m1 : (if th < wn + n then th else wn + n) = wn + n := if_neg (by omega)
 have h5 : ¬ wn + n = th := by omega
 go_enter Tryz.func180, Tryz.ntmps180
 go_wp2_with (first
   | go_in)
 refine bodyPost_ret (results_one rfl _ _ _ [.int .i64 k, .int .i64 (wn + n), .int .i64 th, .int .i64 gx, .int .i64 ac, .int .i64 la, .int .i64 og, .int .i64 st, .int .i64 fr, .bool true] rfl (cells_ten (by go_simp) (by go_simp) (by go_simp) (by go_simp) (by go_simp) (by go_simp) (by go_simp) (by go_simp) (by go_simp) (by go_simp)) Tryz.underlying62 rfl (by kernel_rfl)) rfl ?_
 exact ⟨rfl, onlyC_of (by go_grown)⟩
set_option maxHeartbeats 4000000 in
theorem thr_top {k wn th fl ac la og st fr n now gx : Int} {tb bm : Nat} (w : World) (hf : 0 ≤ fl ∧ fl ≤ 1000000000) (hn : 1 ≤ n ∧ n ≤ 1000000000) (hg : (if fl - n < 0 then 0 else fl - n) = gx) (hw : 3000 ≤ wn ∧ wn ≤ 1000000000) (ht : 3000 ≤ th ∧ th ≤ 1000000000) (h3 : wn < th) (h4 : th ≤ wn + n) : Calls Tryz.prog 180 #[.iface 188 (.agg #[.int .i64 now, .pointer (some ⟨tb, 0, none⟩)]), .agg #[.int .i64 k, .int .i64 wn, .int .i64 th, .int .i64 fl, .int .i64 ac, .int .i64 la, .int .i64 og, .int .i64 st, .int .i64 fr, .bool true], .int .i64 n] w fun e w' => e = .returned (.agg #[.int .i64 k, .int .i64 th, .int .i64 th, .int .i64 gx, .int .i64 ac, .int .i64 la, .int .i64 og, .int .i64 st, .int .i64 fr, .bool false]) ∧ OnlyC tb bm w w' := by
 have r1 : IntKind.i64.wrap (fl - n) = fl - n := by rw [IntKind.wrap_i64]; omega
 have r3 : IntKind.i64.wrap (wn + n) = wn + n := by rw [IntKind.wrap_i64]; omega
 have m1 : (if th < wn + n then th else wn + n) = th := by split <;> omega
 go_enter Tryz.func180, Tryz.ntmps180
 go_wp2_with (first
   | go_in)
 refine bodyPost_ret (results_one rfl _ _ _ [.int .i64 k, .int .i64 th, .int .i64 th, .int .i64 gx, .int .i64 ac, .int .i64 la, .int .i64 og, .int .i64 st, .int .i64 fr, .bool false] rfl (cells_ten (by go_simp) (by go_simp) (by go_simp) (by go_simp) (by go_simp) (by go_simp) (by go_simp) (by go_simp) (by go_simp) (by go_simp)) Tryz.underlying62 rfl (by kernel_rfl)) rfl ?_
 exact ⟨rfl, onlyC_of (by go_grown)⟩
set_option maxHeartbeats 4000000 in
theorem thr_stepA {k wn th fl ac la og st fr n now gx y0 y1 y2 y3 y4 y5 y6 y7 y8 : Int} {tb bm : Nat} {rs : Bool} (w : World) (T : Tim tb bm w) (hf : 0 ≤ fl ∧ fl ≤ 1000000000) (hn : 1 ≤ n ∧ n ≤ 1000000000) (hg : (if fl - n < 0 then 0 else fl - n) = gx) (HA : ∀ {w : World}, Tim tb bm w → Calls Tryz.prog 210 #[.agg #[.int .i64 now, .pointer (some ⟨tb, 0, none⟩)], .agg #[.int .i64 k, .int .i64 wn, .int .i64 th, .int .i64 gx, .int .i64 ac, .int .i64 la, .int .i64 og, .int .i64 st, .int .i64 fr, .bool false], .int .i64 n] w fun e w' => e = .returned (.agg #[.int .i64 y0, .int .i64 y1, .int .i64 y2, .int .i64 y3, .int .i64 y4, .int .i64 y5, .int .i64 y6, .int .i64 y7, .int .i64 y8, .bool rs]) ∧ OnlyC tb bm w w') : Calls Tryz.prog 180 #[.iface 188 (.agg #[.int .i64 now, .pointer (some ⟨tb, 0, none⟩)]), .agg #[.int .i64 k, .int .i64 wn, .int .i64 th, .int .i64 fl, .int .i64 ac, .int .i64 la, .int .i64 og, .int .i64 st, .int .i64 fr, .bool false], .int .i64 n] w fun e w' => e = .returned (.agg #[.int .i64 y0, .int .i64 y1, .int .i64 y2, .int .i64 y3, .int .i64 y4, .int .i64 y5, .int .i64 y6, .int .i64 y7, .int .i64 y8, .bool rs]) ∧ OnlyC tb bm w w' := by
 have r1 : IntKind.i64.wrap (fl - n) = fl - n := by rw [IntKind.wrap_i64]; omega
 have hal := hasAlongC (.agg #[.int .i64 now, .pointer (some ⟨tb, 0, none⟩)])
 have htb := T.ht
 have hmb := T.hm
 go_enter Tryz.func180, Tryz.ntmps180
 go_wp2_with (first
   | (go_at_call 210; refine (HA (T.below (by go_grown))).mono ?_; rintro e w2 ⟨rfl, ho2⟩; have O2 := onlyC_first (w := w) (by go_grown) ho2; have p0 : w2.cell? ⟨w.heap.size + 1, 0, none⟩ = some (.int .i64 0) := (ho2.cell (by simp; try omega) (by show ¬ w.heap.size + 1 = _; omega) (by show ¬ w.heap.size + 1 = _; omega)).trans (by go_simp); have p1 : w2.cell? ⟨w.heap.size + 1, 1, none⟩ = some (.int .i64 0) := (ho2.cell (by simp; try omega) (by show ¬ w.heap.size + 1 = _; omega) (by show ¬ w.heap.size + 1 = _; omega)).trans (by go_simp); have p2 : w2.cell? ⟨w.heap.size + 1, 2, none⟩ = some (.int .i64 0) := (ho2.cell (by simp; try omega) (by show ¬ w.heap.size + 1 = _; omega) (by show ¬ w.heap.size + 1 = _; omega)).trans (by go_simp); have p3 : w2.cell? ⟨w.heap.size + 1, 3, none⟩ = some (.int .i64 0) := (ho2.cell (by simp; try omega) (by show ¬ w.heap.size + 1 = _; omega) (by show ¬ w.heap.size + 1 = _; omega)).trans (by go_simp); have p4 : w2.cell? ⟨w.heap.size + 1, 4, none⟩ = some (.int .i64 0) := (ho2.cell (by simp; try omega) (by show ¬ w.heap.size + 1 = _; omega) (by show ¬ w.heap.size + 1 = _; omega)).trans (by go_simp); have p5 : w2.cell? ⟨w.heap.size + 1, 5, none⟩ = some (.int .i64 0) := (ho2.cell (by simp; try omega) (by show ¬ w.heap.size + 1 = _; omega) (by show ¬ w.heap.size + 1 = _; omega)).trans (by go_simp); have p6 : w2.cell? ⟨w.heap.size + 1, 6, none⟩ = some (.int .i64 0) := (ho2.cell (by simp; try omega) (by show ¬ w.heap.size + 1 = _; omega) (by show ¬ w.heap.size + 1 = _; omega)).trans (by go_simp); have p7 : w2.cell? ⟨w.heap.size + 1, 7, none⟩ = some (.int .i64 0) := (ho2.cell (by simp; try omega) (by show ¬ w.heap.size + 1 = _; omega) (by show ¬ w.heap.size + 1 = _; omega)).trans (by go_simp); have p8 : w2.cell? ⟨w.heap.size + 1, 8, none⟩ = some (.int .i64 0) := (ho2.cell (by simp; try omega) (by show ¬ w.heap.size + 1 = _; omega) (by show ¬ w.heap.size + 1 = _; omega)).trans (by go_simp); have p9 : w2.cell? ⟨w.heap.size + 1, 9, none⟩ = some (.bool false) := (ho2.cell (by simp; try omega) (by show ¬ w.heap.size + 1 = _; omega) (by show ¬ w.heap.size + 1 = _; omega)).trans (by go_simp); have f2 : ∀ o : Nat, w2.frozen? ⟨w.heap.size + 1, o, none⟩ = false := (fun o => (ho2.frozen (by simp; try omega) (by show ¬ w.heap.size + 1 = _; omega) (by show ¬ w.heap.size + 1 = _; omega)).trans (by go_simp)); clear ho2)
   | go_in)
 obtain ⟨w9, e9, cs, far, fz, sz, hbel⟩ := over10 (.int .i64 y0) (.int .i64 y1) (.int .i64 y2) (.int .i64 y3) (.int .i64 y4) (.int .i64 y5) (.int .i64 y6) (.int .i64 y7) (.int .i64 y8) (.bool rs) (w := w2) (g := w.heap.size + 1) p0 p1 p2 p3 p4 p5 p6 p7 p8 p9
 rw [← e9]
 refine bodyPost_ret (results_one rfl _ _ _ [.int .i64 y0, .int .i64 y1, .int .i64 y2, .int .i64 y3, .int .i64 y4, .int .i64 y5, .int .i64 y6, .int .i64 y7, .int .i64 y8, .bool rs] rfl cs Tryz.underlying62 rfl (by kernel_rfl)) rfl ?_
 exact ⟨rfl, onlyC_then O2 (hbel _ (by omega))⟩
set_option maxHeartbeats 4000000 in
theorem thr_stepB {k wn th fl ac la og st fr n now gx y0 y1 y2 y3 y4 y5 y6 y7 y8 : Int} {tb bm : Nat} {rs : Bool} (w : World) (T : Tim tb bm w) (hf : 0 ≤ fl ∧ fl ≤ 1000000000) (hn : 1 ≤ n ∧ n ≤ 1000000000) (hg : (if fl - n < 0 then 0 else fl - n) = gx) (h3 : ¬ wn < th) (HA : ∀ {w : World}, Tim tb bm w → Calls Tryz.prog 210 #[.agg #[.int .i64 now, .pointer (some ⟨tb, 0, none⟩)], .agg #[.int .i64 k, .int .i64 wn, .int .i64 th, .int .i64 gx, .int .i64 ac, .int .i64 la, .int .i64 og, .int .i64 st, .int .i64 fr, .bool true], .int .i64 n] w fun e w' => e = .returned (.agg #[.int .i64 y0, .int .i64 y1, .int .i64 y2, .int .i64 y3, .int .i64 y4, .int .i64 y5, .int .i64 y6, .int .i64 y7, .int .i64 y8, .bool rs]) ∧ OnlyC tb bm w w') : Calls Tryz.prog 180 #[.iface 188 (.agg #[.int .i64 now, .pointer (some ⟨tb, 0, none⟩)]), .agg #[.int .i64 k, .int .i64 wn, .int .i64 th, .int .i64 fl, .int .i64 ac, .int .i64 la, .int .i64 og, .int .i64 st, .int .i64 fr, .bool true], .int .i64 n] w fun e w' => e = .returned (.agg #[.int .i64 y0, .int .i64 y1, .int .i64 y2, .int .i64 y3, .int .i64 y4, .int .i64 y5, .int .i64 y6, .int .i64 y7, .int .i64 y8, .bool rs]) ∧ OnlyC tb bm w w' := by
 have r1 : IntKind.i64.wrap (fl - n) = fl - n := by rw [IntKind.wrap_i64]; omega
 have hal := hasAlongC (.agg #[.int .i64 now, .pointer (some ⟨tb, 0, none⟩)])
 have htb := T.ht
 have hmb := T.hm
 go_enter Tryz.func180, Tryz.ntmps180
 go_wp2_with (first
   | (go_at_call 210; refine (HA (T.below (by go_grown))).mono ?_; rintro e w2 ⟨rfl, ho2⟩; have O2 := onlyC_first (w := w) (by go_grown) ho2; have p0 : w2.cell? ⟨w.heap.size + 1, 0, none⟩ = some (.int .i64 0) := (ho2.cell (by simp; try omega) (by show ¬ w.heap.size + 1 = _; omega) (by show ¬ w.heap.size + 1 = _; omega)).trans (by go_simp); have p1 : w2.cell? ⟨w.heap.size + 1, 1, none⟩ = some (.int .i64 0) := (ho2.cell (by simp; try omega) (by show ¬ w.heap.size + 1 = _; omega) (by show ¬ w.heap.size + 1 = _; omega)).trans (by go_simp); have p2 : w2.cell? ⟨w.heap.size + 1, 2, none⟩ = some (.int .i64 0) := (ho2.cell (by simp; try omega) (by show ¬ w.heap.size + 1 = _; omega) (by show ¬ w.heap.size + 1 = _; omega)).trans (by go_simp); have p3 : w2.cell? ⟨w.heap.size + 1, 3, none⟩ = some (.int .i64 0) := (ho2.cell (by simp; try omega) (by show ¬ w.heap.size + 1 = _; omega) (by show ¬ w.heap.size + 1 = _; omega)).trans (by go_simp); have p4 : w2.cell? ⟨w.heap.size + 1, 4, none⟩ = some (.int .i64 0) := (ho2.cell (by simp; try omega) (by show ¬ w.heap.size + 1 = _; omega) (by show ¬ w.heap.size + 1 = _; omega)).trans (by go_simp); have p5 : w2.cell? ⟨w.heap.size + 1, 5, none⟩ = some (.int .i64 0) := (ho2.cell (by simp; try omega) (by show ¬ w.heap.size + 1 = _; omega) (by show ¬ w.heap.size + 1 = _; omega)).trans (by go_simp); have p6 : w2.cell? ⟨w.heap.size + 1, 6, none⟩ = some (.int .i64 0) := (ho2.cell (by simp; try omega) (by show ¬ w.heap.size + 1 = _; omega) (by show ¬ w.heap.size + 1 = _; omega)).trans (by go_simp); have p7 : w2.cell? ⟨w.heap.size + 1, 7, none⟩ = some (.int .i64 0) := (ho2.cell (by simp; try omega) (by show ¬ w.heap.size + 1 = _; omega) (by show ¬ w.heap.size + 1 = _; omega)).trans (by go_simp); have p8 : w2.cell? ⟨w.heap.size + 1, 8, none⟩ = some (.int .i64 0) := (ho2.cell (by simp; try omega) (by show ¬ w.heap.size + 1 = _; omega) (by show ¬ w.heap.size + 1 = _; omega)).trans (by go_simp); have p9 : w2.cell? ⟨w.heap.size + 1, 9, none⟩ = some (.bool false) := (ho2.cell (by simp; try omega) (by show ¬ w.heap.size + 1 = _; omega) (by show ¬ w.heap.size + 1 = _; omega)).trans (by go_simp); have f2 : ∀ o : Nat, w2.frozen? ⟨w.heap.size + 1, o, none⟩ = false := (fun o => (ho2.frozen (by simp; try omega) (by show ¬ w.heap.size + 1 = _; omega) (by show ¬ w.heap.size + 1 = _; omega)).trans (by go_simp)); clear ho2)
   | go_in)
 obtain ⟨w9, e9, cs, far, fz, sz, hbel⟩ := over10 (.int .i64 y0) (.int .i64 y1) (.int .i64 y2) (.int .i64 y3) (.int .i64 y4) (.int .i64 y5) (.int .i64 y6) (.int .i64 y7) (.int .i64 y8) (.bool rs) (w := w2) (g := w.heap.size + 1) p0 p1 p2 p3 p4 p5 p6 p7 p8 p9
 rw [← e9]
 refine bodyPost_ret (results_one rfl _ _ _ [.int .i64 y0, .int .i64 y1, .int .i64 y2, .int .i64 y3, .int .i64 y4, .int .i64 y5, .int .i64 y6, .int .i64 y7, .int .i64 y8, .bool rs] rfl cs Tryz.underlying62 rfl (by kernel_rfl)) rfl ?_
 exact ⟨rfl, onlyC_then O2 (hbel _ (by omega))⟩
theorem tim_new {w : World} {s : Nat} (h : w.heap.size = s) : Tim (s + 1) s ((w.alloc (.map #[] 0)).alloc (.cells #[.int .i32 0, .int .u32 0, .map (some w.heap.size)] 211)) := by
 subst h
 exact ⟨new_c0 w, new_c2 w, new_f0 w, by omega, new_own w, by simp, by simp; omega⟩
theorem newTimes_at {w : World} {s : Nat} (h : w.heap.size = s) : Calls Tryz.prog 181 #[] w fun e w' => e = .returned (.pointer (some ⟨s + 1, 0, none⟩)) ∧ w' = ((w.alloc (.map #[] 0)).alloc (.cells #[.int .i32 0, .int .u32 0, .map (some w.heap.size)] 211)) := by
 subst h
 exact newTimes_any w
set_option maxHeartbeats 4000000 in
theorem implCubicAck_no1 {k wn th fl ac la og st fr n now : Int} (sl : Bool) (w : World) (h1 : ccB k wn th fl ac la og st fr = false) : Calls Tryz.prog 160 #[.agg #[.int .i64 k, .int .i64 wn, .int .i64 th, .int .i64 fl, .int .i64 ac, .int .i64 la, .int .i64 og, .int .i64 st, .int .i64 fr, .bool sl], .int .i64 n, .int .i64 now] w fun e w' => e = .returned (.agg #[.int .i64 0, .int .i64 0, .int .i64 0, .int .i64 0, .int .i64 0, .int .i64 0, .int .i64 0, .int .i64 0, .int .i64 0, .bool false]) ∧ Below w.heap.size w w' := by
 go_enter Tryz.func160, Tryz.ntmps160
 go_wp2_with (first
   | (go_at_call 140; refine (implCcOk_is h1 _ _).mono ?_; rintro e w2 ⟨rfl, rfl⟩))
 refine bodyPost_ret (results_one rfl _ _ _ [.int .i64 0, .int .i64 0, .int .i64 0, .int .i64 0, .int .i64 0, .int .i64 0, .int .i64 0, .int .i64 0, .int .i64 0, .bool false] rfl (cells_ten (by go_simp) (by go_simp) (by go_simp) (by go_simp) (by go_simp) (by go_simp) (by go_simp) (by go_simp) (by go_simp) (by go_simp)) Tryz.underlying62 rfl (by kernel_rfl)) rfl ?_
 exact ⟨rfl, by go_grown⟩
set_option maxHeartbeats 4000000 in
theorem implCubicAck_no2 {k wn th fl ac la og st fr n now : Int} (sl : Bool) (w : World) (h1 : ccB k wn th fl ac la og st fr = true) (h2 : n10B n = false) : Calls Tryz.prog 160 #[.agg #[.int .i64 k, .int .i64 wn, .int .i64 th, .int .i64 fl, .int .i64 ac, .int .i64 la, .int .i64 og, .int .i64 st, .int .i64 fr, .bool sl], .int .i64 n, .int .i64 now] w fun e w' => e = .returned (.agg #[.int .i64 0, .int .i64 0, .int .i64 0, .int .i64 0, .int .i64 0, .int .i64 0, .int .i64 0, .int .i64 0, .int .i64 0, .bool false]) ∧ Below w.heap.size w w' := by
 go_enter Tryz.func160, Tryz.ntmps160
 go_wp2_with (first
   | (go_at_call 140; refine (implCcOk_is h1 _ _).mono ?_; rintro e w2 ⟨rfl, rfl⟩)
   | (go_at_call 77; refine (iN_is h2 _).mono ?_; rintro e w2 ⟨rfl, rfl⟩))
 refine bodyPost_ret (results_one rfl _ _ _ [.int .i64 0, .int .i64 0, .int .i64 0, .int .i64 0, .int .i64 0, .int .i64 0, .int .i64 0, .int .i64 0, .int .i64 0, .bool false] rfl (cells_ten (by go_simp) (by go_simp) (by go_simp) (by go_simp) (by go_simp) (by go_simp) (by go_simp) (by go_simp) (by go_simp) (by go_simp)) Tryz.underlying62 rfl (by kernel_rfl)) rfl ?_
 exact ⟨rfl, by go_grown⟩
set_option maxHeartbeats 4000000 in
theorem implCubicAck_no3 {k wn th fl ac la og st fr n now : Int} (sl : Bool) (w : World) (h1 : ccB k wn th fl ac la og st fr = true) (h2 : n10B n = true) (h3 : timeB now = false) : Calls Tryz.prog 160 #[.agg #[.int .i64 k, .int .i64 wn, .int .i64 th, .int .i64 fl, .int .i64 ac, .int .i64 la, .int .i64 og, .int .i64 st, .int .i64 fr, .bool sl], .int .i64 n, .int .i64 now] w fun e w' => e = .returned (.agg #[.int .i64 0, .int .i64 0, .int .i64 0, .int .i64 0, .int .i64 0, .int .i64 0, .int .i64 0, .int .i64 0, .int .i64 0, .bool false]) ∧ Below w.heap.size w w' := by
 go_enter Tryz.func160, Tryz.ntmps160
 go_wp2_with (first
   | (go_at_call 140; refine (implCcOk_is h1 _ _).mono ?_; rintro e w2 ⟨rfl, rfl⟩)
   | (go_at_call 77; refine (iN_is h2 _).mono ?_; rintro e w2 ⟨rfl, rfl⟩)
   | (go_at_call 168; refine (iTim_is h3 _).mono ?_; rintro e w2 ⟨rfl, rfl⟩))
 refine bodyPost_ret (results_one rfl _ _ _ [.int .i64 0, .int .i64 0, .int .i64 0, .int .i64 0, .int .i64 0, .int .i64 0, .int .i64 0, .int .i64 0, .int .i64 0, .bool false] rfl (cells_ten (by go_simp) (by go_simp) (by go_simp) (by go_simp) (by go_simp) (by go_simp) (by go_simp) (by go_simp) (by go_simp) (by go_simp)) Tryz.underlying62 rfl (by kernel_rfl)) rfl ?_
 exact ⟨rfl, by go_grown⟩
set_option maxHeartbeats 4000000 in
theorem implCubicAck_go {k wn th fl ac la og st fr n now y0 y1 y2 y3 y4 y5 y6 y7 y8 : Int} (sl : Bool) (w : World) {rs : Bool} (h1 : ccB k wn th fl ac la og st fr = true) (h2 : n10B n = true) (h3 : timeB now = true) (HT : ∀ {tb bm : Nat} {w : World}, Tim tb bm w → Calls Tryz.prog 180 #[.iface 188 (.agg #[.int .i64 now, .pointer (some ⟨tb, 0, none⟩)]), .agg #[.int .i64 k, .int .i64 wn, .int .i64 th, .int .i64 fl, .int .i64 ac, .int .i64 la, .int .i64 og, .int .i64 st, .int .i64 fr, .bool sl], .int .i64 n] w fun e w' => e = .returned (.agg #[.int .i64 y0, .int .i64 y1, .int .i64 y2, .int .i64 y3, .int .i64 y4, .int .i64 y5, .int .i64 y6, .int .i64 y7, .int .i64 y8, .bool rs]) ∧ OnlyC tb bm w w') : Calls Tryz.prog 160 #[.agg #[.int .i64 k, .int .i64 wn, .int .i64 th, .int .i64 fl, .int .i64 ac, .int .i64 la, .int .i64 og, .int .i64 st, .int .i64 fr, .bool sl], .int .i64 n, .int .i64 now] w fun e w' => e = .returned (.agg #[.int .i64 y0, .int .i64 y1, .int .i64 y2, .int .i64 y3, .int .i64 y4, .int .i64 y5, .int .i64 y6, .int .i64 y7, .int .i64 y8, .bool rs]) ∧ Below w.heap.size w w' := by
 go_enter Tryz.func160, Tryz.ntmps160
 go_wp2_with (first
   | (go_at_call 140; refine (implCcOk_is h1 _ _).mono ?_; rintro e w2 ⟨rfl, rfl⟩)
   | (go_at_call 77; refine (iN_is h2 _).mono ?_; rintro e w2 ⟨rfl, rfl⟩)
   | (go_at_call 168; refine (iTim_is h3 _).mono ?_; rintro e w2 ⟨rfl, rfl⟩))
 refine region_late (S := fun w' => w'.cell? ⟨w.heap.size, 0, none⟩ = some (.int .i64 k) ∧ w'.cell? ⟨w.heap.size, 1, none⟩ = some (.int .i64 wn) ∧ w'.cell? ⟨w.heap.size, 2, none⟩ = some (.int .i64 th) ∧ w'.cell? ⟨w.heap.size, 3, none⟩ = some (.int .i64 fl) ∧ w'.cell? ⟨w.heap.size, 4, none⟩ = some (.int .i64 ac) ∧ w'.cell? ⟨w.heap.size, 5, none⟩ = some (.int .i64 la) ∧ w'.cell? ⟨w.heap.size, 6, none⟩ = some (.int .i64 og) ∧ w'.cell? ⟨w.heap.size, 7, none⟩ = some (.int .i64 st) ∧ w'.cell? ⟨w.heap.size, 8, none⟩ = some (.int .i64 fr) ∧ w'.cell? ⟨w.heap.size, 9, none⟩ = some (.bool sl)) 7 (by kernel_rfl) (⟨by go_simp, by go_simp, by go_simp, by go_simp, by go_simp, by go_simp, by go_simp, by go_simp, by go_simp, by go_simp⟩) (fun hS => ?_)
 refine lateR 0 rfl ?_
 refine lateR 4 rfl ?_
 refine lateR 5 rfl ?_
 refine late_one (i := 1) (by kernel_rfl) rfl (fun K hK => ?_)
 go_simp
 (refine (newTimes_at (s := w.heap.size + 1 + 1 + 1) (by simp)).mono ?_; rintro e w4 ⟨rfl, hw4⟩; have hS4 : (fun w' => w'.cell? ⟨w.heap.size, 0, none⟩ = some (.int .i64 k) ∧ w'.cell? ⟨w.heap.size, 1, none⟩ = some (.int .i64 wn) ∧ w'.cell? ⟨w.heap.size, 2, none⟩ = some (.int .i64 th) ∧ w'.cell? ⟨w.heap.size, 3, none⟩ = some (.int .i64 fl) ∧ w'.cell? ⟨w.heap.size, 4, none⟩ = some (.int .i64 ac) ∧ w'.cell? ⟨w.heap.size, 5, none⟩ = some (.int .i64 la) ∧ w'.cell? ⟨w.heap.size, 6, none⟩ = some (.int .i64 og) ∧ w'.cell? ⟨w.heap.size, 7, none⟩ = some (.int .i64 st) ∧ w'.cell? ⟨w.heap.size, 8, none⟩ = some (.int .i64 fr) ∧ w'.cell? ⟨w.heap.size, 9, none⟩ = some (.bool sl)) w4 := (by rw [hw4]; exact ⟨by go_simp, by go_simp, by go_simp, by go_simp, by go_simp, by go_simp, by go_simp, by go_simp, by go_simp, by go_simp⟩); have hR4 : (fun w' : World => w'.cell? ⟨w.heap.size + 1, 0, none⟩ = some (.int .i64 0) ∧ w'.cell? ⟨w.heap.size + 1, 1, none⟩ = some (.int .i64 0) ∧ w'.cell? ⟨w.heap.size + 1, 2, none⟩ = some (.int .i64 0) ∧ w'.cell? ⟨w.heap.size + 1, 3, none⟩ = some (.int .i64 0) ∧ w'.cell? ⟨w.heap.size + 1, 4, none⟩ = some (.int .i64 0) ∧ w'.cell? ⟨w.heap.size + 1, 5, none⟩ = some (.int .i64 0) ∧ w'.cell? ⟨w.heap.size + 1, 6, none⟩ = some (.int .i64 0) ∧ w'.cell? ⟨w.heap.size + 1, 7, none⟩ = some (.int .i64 0) ∧ w'.cell? ⟨w.heap.size + 1, 8, none⟩ = some (.int .i64 0) ∧ w'.cell? ⟨w.heap.size + 1, 9, none⟩ = some (.bool false)) w4 := (by rw [hw4]; exact ⟨by go_simp, by go_simp, by go_simp, by go_simp, by go_simp, by go_simp, by go_simp, by go_simp, by go_simp, by go_simp⟩); have hF4 : ∀ o : Nat, w4.frozen? ⟨w.heap.size + 1, o, none⟩ = false := (by intro o; rw [hw4]; go_simp); have T4 : Tim (w.heap.size + 1 + 1 + 1 + 1) (w.heap.size + 1 + 1 + 1) w4 := (by rw [hw4]; exact tim_new (by simp)); have hb4 : Below w.heap.size w w4 := (by rw [hw4]; go_grown); have z4 : w.heap.size + 1 < w4.heap.size := (by have := T4.ht; omega); clear hw4)
 refine hK.out _ _ ‹_› fun _ => ?_
 try simp only [nrm]
 refine lateR 2 rfl ?_
 refine lateR 3 rfl ?_
 refine late_one (i := 6) (by kernel_rfl) rfl (fun K hK => ?_)
 go_simp
 (refine (HT T4).mono ?_; rintro e w5 ⟨rfl, ho5⟩; have k5 : ∀ b o : Nat, b ≤ w.heap.size + 1 → w5.cell? ⟨b, o, none⟩ = w4.cell? ⟨b, o, none⟩ := (fun b o hb => ho5.cell (by show b < _; omega) (by show ¬ b = _; omega) (by show ¬ b = _; omega)); have hS5 : (fun w' => w'.cell? ⟨w.heap.size, 0, none⟩ = some (.int .i64 k) ∧ w'.cell? ⟨w.heap.size, 1, none⟩ = some (.int .i64 wn) ∧ w'.cell? ⟨w.heap.size, 2, none⟩ = some (.int .i64 th) ∧ w'.cell? ⟨w.heap.size, 3, none⟩ = some (.int .i64 fl) ∧ w'.cell? ⟨w.heap.size, 4, none⟩ = some (.int .i64 ac) ∧ w'.cell? ⟨w.heap.size, 5, none⟩ = some (.int .i64 la) ∧ w'.cell? ⟨w.heap.size, 6, none⟩ = some (.int .i64 og) ∧ w'.cell? ⟨w.heap.size, 7, none⟩ = some (.int .i64 st) ∧ w'.cell? ⟨w.heap.size, 8, none⟩ = some (.int .i64 fr) ∧ w'.cell? ⟨w.heap.size, 9, none⟩ = some (.bool sl)) w5 := ⟨(k5 _ _ (by omega)).trans hS4.1, (k5 _ _ (by omega)).trans hS4.2.1, (k5 _ _ (by omega)).trans hS4.2.2.1, (k5 _ _ (by omega)).trans hS4.2.2.2.1, (k5 _ _ (by omega)).trans hS4.2.2.2.2.1, (k5 _ _ (by omega)).trans hS4.2.2.2.2.2.1, (k5 _ _ (by omega)).trans hS4.2.2.2.2.2.2.1, (k5 _ _ (by omega)).trans hS4.2.2.2.2.2.2.2.1, (k5 _ _ (by omega)).trans hS4.2.2.2.2.2.2.2.2.1, (k5 _ _ (by omega)).trans hS4.2.2.2.2.2.2.2.2.2⟩; have hR5 : (fun w' : World => w'.cell? ⟨w.heap.size + 1, 0, none⟩ = some (.int .i64 0) ∧ w'.cell? ⟨w.heap.size + 1, 1, none⟩ = some (.int .i64 0) ∧ w'.cell? ⟨w.heap.size + 1, 2, none⟩ = some (.int .i64 0) ∧ w'.cell? ⟨w.heap.size + 1, 3, none⟩ = some (.int .i64 0) ∧ w'.cell? ⟨w.heap.size + 1, 4, none⟩ = some (.int .i64 0) ∧ w'.cell? ⟨w.heap.size + 1, 5, none⟩ = some (.int .i64 0) ∧ w'.cell? ⟨w.heap.size + 1, 6, none⟩ = some (.int .i64 0) ∧ w'.cell? ⟨w.heap.size + 1, 7, none⟩ = some (.int .i64 0) ∧ w'.cell? ⟨w.heap.size + 1, 8, none⟩ = some (.int .i64 0) ∧ w'.cell? ⟨w.heap.size + 1, 9, none⟩ = some (.bool false)) w5 := ⟨(k5 _ _ (by omega)).trans hR4.1, (k5 _ _ (by omega)).trans hR4.2.1, (k5 _ _ (by omega)).trans hR4.2.2.1, (k5 _ _ (by omega)).trans hR4.2.2.2.1, (k5 _ _ (by omega)).trans hR4.2.2.2.2.1, (k5 _ _ (by omega)).trans hR4.2.2.2.2.2.1, (k5 _ _ (by omega)).trans hR4.2.2.2.2.2.2.1, (k5 _ _ (by omega)).trans hR4.2.2.2.2.2.2.2.1, (k5 _ _ (by omega)).trans hR4.2.2.2.2.2.2.2.2.1, (k5 _ _ (by omega)).trans hR4.2.2.2.2.2.2.2.2.2⟩; have f5 : ∀ o : Nat, w5.frozen? ⟨w.heap.size + 1, o, none⟩ = false := (fun o => (ho5.frozen (by show w.heap.size + 1 < _; omega) (by show ¬ w.heap.size + 1 = _; omega) (by show ¬ w.heap.size + 1 = _; omega)).trans (hF4 o)); have hb5 : Below w.heap.size w w5 := hb4.trans (ho5.below (by omega) (by omega) (by omega)); obtain ⟨p0, p1, p2, p3, p4, p5, p6, p7, p8, p9⟩ := hR5; clear k5 ho5 hb4 z4 hF4 hR4 hS4 T4)
 refine hK.out _ _ ‹_› fun _ => ?_
 try simp only [nrm]
 refine late_last (by kernel_rfl) rfl (by kernel_rfl) (fun K hK => ?_)
 go_simp
 refine hK.out _ _ ?_
 try simp only [nrm]
 go_wp2
 obtain ⟨w9, e9, cs, far, fz, sz, hbel⟩ := over10 (.int .i64 y0) (.int .i64 y1) (.int .i64 y2) (.int .i64 y3) (.int .i64 y4) (.int .i64 y5) (.int .i64 y6) (.int .i64 y7) (.int .i64 y8) (.bool rs) (w := w5) (g := w.heap.size + 1) p0 p1 p2 p3 p4 p5 p6 p7 p8 p9
 rw [← e9]
 refine bodyPost_ret (results_one rfl _ _ _ [.int .i64 y0, .int .i64 y1, .int .i64 y2, .int .i64 y3, .int .i64 y4, .int .i64 y5, .int .i64 y6, .int .i64 y7, .int .i64 y8, .bool rs] rfl cs Tryz.underlying62 rfl (by kernel_rfl)) rfl ?_
 exact ⟨rfl, hb5.trans (hbel _ (by omega))⟩
def downC (k wn th fl ac la og st fr : Int) (sl : Bool) : C10 := if ccB k wn th fl ac la og st fr = true then ⟨k, tenW wn, tenW wn, fl, 0, lastW wn la, 0, 0, 0, false⟩ else zeroC
def cubIn (k wn th fl ac la og st fr : Int) (sl : Bool) (n now : Int) : C10 := if sl = true ∧ wn < th then (if wn + n < th then ⟨k, wn + n, th, max 0 (fl - n), ac, la, og, st, fr, true⟩ else ⟨k, th, th, max 0 (fl - n), ac, la, og, st, fr, false⟩) else if st = 0 then ⟨k, wnW wn (frW wn wn n) (tgW wn (max la wn) wn (msOf (max 1 now) now)), th, max 0 (fl - n), ac, max la wn, wn, max 1 now, frW wn wn n, sl⟩ else ⟨k, wnW wn (frW wn fr n) (tgW wn la og (msOf st now)), th, max 0 (fl - n), ac, la, og, st, frW wn fr n, sl⟩
def cubC (k wn th fl ac la og st fr : Int) (sl : Bool) (n now : Int) : C10 := if (ccB k wn th fl ac la og st fr = true ∧ n10B n = true) ∧ timeB now = true then cubIn k wn th fl ac la og st fr sl n now else zeroC
theorem cc_fl {k wn th fl ac la og st fr gx : Int} (h : ccB k wn th fl ac la og st fr = true) (hg : 0 ≤ gx ∧ gx ≤ 1000000000) : ccB k wn th gx ac la og st fr = true := by
 have hw : w10B gx = true := by unfold w10B; simp only [Bool.and_eq_true, decide_eq_true_eq]; exact hg
 unfold ccB at h ⊢
 simp only [Bool.and_eq_true] at h ⊢
 simp_all only [and_self]
theorem specCubicAck_any (k wn th fl ac la og st fr : Int) (sl : Bool) (n now : Int) (w : World) : Calls Tryz.prog 53 #[.agg #[.int .i64 k, .int .i64 wn, .int .i64 th, .int .i64 fl, .int .i64 ac, .int .i64 la, .int .i64 og, .int .i64 st, .int .i64 fr, .bool sl], .int .i64 n, .int .i64 now] w fun e w' => e = .returned (.agg #[.int .i64 ((cubC k wn th fl ac la og st fr sl n now).k), .int .i64 ((cubC k wn th fl ac la og st fr sl n now).wn), .int .i64 ((cubC k wn th fl ac la og st fr sl n now).th), .int .i64 ((cubC k wn th fl ac la og st fr sl n now).fl), .int .i64 ((cubC k wn th fl ac la og st fr sl n now).ac), .int .i64 ((cubC k wn th fl ac la og st fr sl n now).la), .int .i64 ((cubC k wn th fl ac la og st fr sl n now).og), .int .i64 ((cubC k wn th fl ac la og st fr sl n now).st), .int .i64 ((cubC k wn th fl ac la og st fr sl n now).fr), .bool (cubC k wn th fl ac la og st fr sl n now).sl]) ∧ Below w.heap.size w w' := by
 cases h1 : ccB k wn th fl ac la og st fr
 · rw [show cubC k wn th fl ac la og st fr sl n now = zeroC from if_neg (fun h => by rw [h1] at h; cases h.1.1)]
   exact specCubicAck_no1 sl w h1
 cases h2 : n10B n
 · rw [show cubC k wn th fl ac la og st fr sl n now = zeroC from if_neg (fun h => by rw [h2] at h; cases h.1.2)]
   exact specCubicAck_no2 sl w h1 h2
 cases h3 : timeB now
 · rw [show cubC k wn th fl ac la og st fr sl n now = zeroC from if_neg (fun h => by rw [h3] at h; cases h.2)]
   exact specCubicAck_no3 sl w h1 h2 h3
 rw [show cubC k wn th fl ac la og st fr sl n now = cubIn k wn th fl ac la og st fr sl n now from if_pos ⟨⟨h1, h2⟩, h3⟩]
 cases sl
 · have HN : ¬ (false = true ∧ wn < th) := fun h => by cases h.1
   by_cases h6 : st = 0
   · subst h6
     rw [show cubIn k wn th fl ac la og 0 fr false n now = ⟨k, wnW wn (frW wn wn n) (tgW wn (max la wn) wn (msOf (max 1 now) now)), th, max 0 (fl - n), ac, max la wn, wn, max 1 now, frW wn wn n, false⟩ from (if_neg HN).trans (if_pos rfl)]
     exact specCubicAck_new w h1 h2 h3
   · rw [show cubIn k wn th fl ac la og st fr false n now = ⟨k, wnW wn (frW wn fr n) (tgW wn la og (msOf st now)), th, max 0 (fl - n), ac, la, og, st, frW wn fr n, false⟩ from (if_neg HN).trans (if_neg h6)]
     exact specCubicAck_old w h1 h2 h3 h6
 · by_cases h5 : wn < th
   · by_cases h4 : wn + n < th
     · rw [show cubIn k wn th fl ac la og st fr true n now = ⟨k, wn + n, th, max 0 (fl - n), ac, la, og, st, fr, true⟩ from (if_pos ⟨rfl, h5⟩).trans (if_pos h4)]
       exact specCubicAck_rise w h1 h2 h3 h5 h4
     · rw [show cubIn k wn th fl ac la og st fr true n now = ⟨k, th, th, max 0 (fl - n), ac, la, og, st, fr, false⟩ from (if_pos ⟨rfl, h5⟩).trans (if_neg h4)]
       exact specCubicAck_top w h1 h2 h3 h5 (by omega)
   · have HN : ¬ (true = true ∧ wn < th) := fun h => h5 h.2
     by_cases h6 : st = 0
     · subst h6
       rw [show cubIn k wn th fl ac la og 0 fr true n now = ⟨k, wnW wn (frW wn wn n) (tgW wn (max la wn) wn (msOf (max 1 now) now)), th, max 0 (fl - n), ac, max la wn, wn, max 1 now, frW wn wn n, true⟩ from (if_neg HN).trans (if_pos rfl)]
       exact specCubicAck_newS w h1 h2 h3 (by omega)
     · rw [show cubIn k wn th fl ac la og st fr true n now = ⟨k, wnW wn (frW wn fr n) (tgW wn la og (msOf st now)), th, max 0 (fl - n), ac, la, og, st, frW wn fr n, true⟩ from (if_neg HN).trans (if_neg h6)]
       exact specCubicAck_oldS w h1 h2 h3 (by omega) h6
theorem implCubicAck_any (k wn th fl ac la og st fr : Int) (sl : Bool) (n now : Int) (w : World) : Calls Tryz.prog 160 #[.agg #[.int .i64 k, .int .i64 wn, .int .i64 th, .int .i64 fl, .int .i64 ac, .int .i64 la, .int .i64 og, .int .i64 st, .int .i64 fr, .bool sl], .int .i64 n, .int .i64 now] w fun e w' => e = .returned (.agg #[.int .i64 ((cubC k wn th fl ac la og st fr sl n now).k), .int .i64 ((cubC k wn th fl ac la og st fr sl n now).wn), .int .i64 ((cubC k wn th fl ac la og st fr sl n now).th), .int .i64 ((cubC k wn th fl ac la og st fr sl n now).fl), .int .i64 ((cubC k wn th fl ac la og st fr sl n now).ac), .int .i64 ((cubC k wn th fl ac la og st fr sl n now).la), .int .i64 ((cubC k wn th fl ac la og st fr sl n now).og), .int .i64 ((cubC k wn th fl ac la og st fr sl n now).st), .int .i64 ((cubC k wn th fl ac la og st fr sl n now).fr), .bool (cubC k wn th fl ac la og st fr sl n now).sl]) ∧ Below w.heap.size w w' := by
 cases h1 : ccB k wn th fl ac la og st fr
 · rw [show cubC k wn th fl ac la og st fr sl n now = zeroC from if_neg (fun h => by rw [h1] at h; cases h.1.1)]
   exact implCubicAck_no1 sl w h1
 cases h2 : n10B n
 · rw [show cubC k wn th fl ac la og st fr sl n now = zeroC from if_neg (fun h => by rw [h2] at h; cases h.1.2)]
   exact implCubicAck_no2 sl w h1 h2
 cases h3 : timeB now
 · rw [show cubC k wn th fl ac la og st fr sl n now = zeroC from if_neg (fun h => by rw [h3] at h; cases h.2)]
   exact implCubicAck_no3 sl w h1 h2 h3
 rw [show cubC k wn th fl ac la og st fr sl n now = cubIn k wn th fl ac la og st fr sl n now from if_pos ⟨⟨h1, h2⟩, h3⟩]
 obtain ⟨_, hw, ht, hf, _⟩ := cc_num h1
 have hn := n10_num h2
 have hg : (if fl - n < 0 then 0 else fl - n) = max 0 (fl - n) := by split <;> omega
 have h1' := cc_fl (gx := max 0 (fl - n)) h1 (by omega)
 cases sl
 · have HN : ¬ (false = true ∧ wn < th) := fun h => by cases h.1
   by_cases h6 : st = 0
   · subst h6
     rw [show cubIn k wn th fl ac la og 0 fr false n now = ⟨k, wnW wn (frW wn wn n) (tgW wn (max la wn) wn (msOf (max 1 now) now)), th, max 0 (fl - n), ac, max la wn, wn, max 1 now, frW wn wn n, false⟩ from (if_neg HN).trans (if_pos rfl)]
     exact implCubicAck_go _ w h1 h2 h3 (fun {tb bm w} T => thr_stepA w T hf hn hg (fun {w} T => along_new false w T h1' h2 h3))
   · rw [show cubIn k wn th fl ac la og st fr false n now = ⟨k, wnW wn (frW wn fr n) (tgW wn la og (msOf st now)), th, max 0 (fl - n), ac, la, og, st, frW wn fr n, false⟩ from (if_neg HN).trans (if_neg h6)]
     exact implCubicAck_go _ w h1 h2 h3 (fun {tb bm w} T => thr_stepA w T hf hn hg (fun {w} T => along_old false w T h1' h2 h3 h6))
 · by_cases h5 : wn < th
   · by_cases h4 : wn + n < th
     · rw [show cubIn k wn th fl ac la og st fr true n now = ⟨k, wn + n, th, max 0 (fl - n), ac, la, og, st, fr, true⟩ from (if_pos ⟨rfl, h5⟩).trans (if_pos h4)]
       exact implCubicAck_go _ w h1 h2 h3 (fun {tb bm w} T => thr_rise w hf hn hg hw ht h5 h4)
     · rw [show cubIn k wn th fl ac la og st fr true n now = ⟨k, th, th, max 0 (fl - n), ac, la, og, st, fr, false⟩ from (if_pos ⟨rfl, h5⟩).trans (if_neg h4)]
       exact implCubicAck_go _ w h1 h2 h3 (fun {tb bm w} T => thr_top w hf hn hg hw ht h5 (by omega))
   · have HN : ¬ (true = true ∧ wn < th) := fun h => h5 h.2
     by_cases h6 : st = 0
     · subst h6
       rw [show cubIn k wn th fl ac la og 0 fr true n now = ⟨k, wnW wn (frW wn wn n) (tgW wn (max la wn) wn (msOf (max 1 now) now)), th, max 0 (fl - n), ac, max la wn, wn, max 1 now, frW wn wn n, true⟩ from (if_neg HN).trans (if_pos rfl)]
       exact implCubicAck_go _ w h1 h2 h3 (fun {tb bm w} T => thr_stepB w T hf hn hg (by omega) (fun {w} T => along_new true w T h1' h2 h3))
     · rw [show cubIn k wn th fl ac la og st fr true n now = ⟨k, wnW wn (frW wn fr n) (tgW wn la og (msOf st now)), th, max 0 (fl - n), ac, la, og, st, frW wn fr n, true⟩ from (if_neg HN).trans (if_neg h6)]
       exact implCubicAck_go _ w h1 h2 h3 (fun {tb bm w} T => thr_stepB w T hf hn hg (by omega) (fun {w} T => along_old true w T h1' h2 h3 h6))
end Go.Proofs.YtkohlmloobojfaaGreat
