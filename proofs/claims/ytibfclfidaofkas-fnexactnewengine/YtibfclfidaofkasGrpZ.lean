/- Lemmas on the way, of several texts: ConTo, ConToS. -/
import Derived.Test.YtibfclfidaofkasGrpW
import Derived.Test.YtibfclfidaofkasGrpX
import Derived.Test.YtibfclfidaofkasGrpV
import Derived.Test.YtibfclfidaofkasPlc
namespace Go.Proofs.Ytibfclfidaofkas
open Go.ChangeShapes Go.WideShapes Go.ChangeAt Go.RowKit
set_option maxRecDepth 100000
set_option linter.unusedVariables false
set_option linter.unusedSimpArgs false

set_option maxHeartbeats 4000000 in
theorem toConn_any {w : World} {a : Option Addr} (cap : Nat) (c : Kn) (h : ISmp w.heap.size w a c.xs) (hn : c.xs.length ≤ 1048576) :
    Calls Try.prog 63 #[.agg #[.int .i64 c.id, .int .i64 c.lf, .int .i64 c.pl, .int .i64 c.k, .int .i64 c.wn, .int .i64 c.th, .int .i64 c.fl, .int .i64 c.ac, .int .i64 c.la, .int .i64 c.og, .int .i64 c.st, .int .i64 c.fr, .bool c.sl, .slice a c.xs.length cap]] w fun e w' => ∃ g, e = .returned (.agg #[.int .i64 c.id, .int .i64 c.lf, .int .i64 c.pl, .int .i64 c.k, .int .i64 c.wn, .int .i64 c.th, .int .i64 c.fl, .int .i64 c.ac, .int .i64 c.la, .int .i64 c.og, .int .i64 c.st, .int .i64 c.fr, .bool c.sl, .slice (some ⟨g, 0, none⟩) c.xs.length c.xs.length]) ∧ w.heap.size ≤ g ∧ g < w'.heap.size ∧ IFill w' g c.xs.length c.xs c.xs.length ∧ Below w.heap.size w w' := by
  go_enter Try.func63, Try.ntmps63
  go_upto_region 5 with (fail)
  obtain ⟨v, hv⟩ : ∃ v, v = ((w.alloc (.cells #[.int .i64 c.id, .int .i64 c.lf, .int .i64 c.pl, .int .i64 c.k, .int .i64 c.wn, .int .i64 c.th, .int .i64 c.fl, .int .i64 c.ac, .int .i64 c.la, .int .i64 c.og, .int .i64 c.st, .int .i64 c.fr, .bool c.sl, .slice a c.xs.length cap] 95)).alloc (.cells #[.int .i64 0, .int .i64 0, .int .i64 0, .int .i64 0, .int .i64 0, .int .i64 0, .int .i64 0, .int .i64 0, .int .i64 0, .int .i64 0, .int .i64 0, .int .i64 0, .bool false, .slice none 0 0] 64)).alloc (.cells #[.int .i64 c.id, .int .i64 c.lf, .int .i64 c.pl, .int .i64 0, .int .i64 0, .int .i64 0, .int .i64 0, .int .i64 0, .int .i64 0, .int .i64 0, .int .i64 0, .int .i64 0, .bool false, .slice none 0 0] 64) := ⟨_, rfl⟩
  rw [← hv]
  have L0 : Lay v (w.heap.size) [.int .i64 c.id, .int .i64 c.lf, .int .i64 c.pl, .int .i64 c.k, .int .i64 c.wn, .int .i64 c.th, .int .i64 c.fl, .int .i64 c.ac, .int .i64 c.la, .int .i64 c.og, .int .i64 c.st, .int .i64 c.fr, .bool c.sl, .slice a c.xs.length cap] := by
    rw [hv]
    exact (lay_new [.int .i64 c.id, .int .i64 c.lf, .int .i64 c.pl, .int .i64 c.k, .int .i64 c.wn, .int .i64 c.th, .int .i64 c.fl, .int .i64 c.ac, .int .i64 c.la, .int .i64 c.og, .int .i64 c.st, .int .i64 c.fr, .bool c.sl, .slice a c.xs.length cap] _ rfl).alloc _ _ |>.alloc _ _
  have L1 : Lay v (w.heap.size + 1) [.int .i64 0, .int .i64 0, .int .i64 0, .int .i64 0, .int .i64 0, .int .i64 0, .int .i64 0, .int .i64 0, .int .i64 0, .int .i64 0, .int .i64 0, .int .i64 0, .bool false, .slice none 0 0] := by
    rw [hv]
    exact (lay_new [.int .i64 0, .int .i64 0, .int .i64 0, .int .i64 0, .int .i64 0, .int .i64 0, .int .i64 0, .int .i64 0, .int .i64 0, .int .i64 0, .int .i64 0, .int .i64 0, .bool false, .slice none 0 0] _ (by simp)).alloc _ _
  have L2 : Lay v (w.heap.size + 1 + 1) [.int .i64 c.id, .int .i64 c.lf, .int .i64 c.pl, .int .i64 0, .int .i64 0, .int .i64 0, .int .i64 0, .int .i64 0, .int .i64 0, .int .i64 0, .int .i64 0, .int .i64 0, .bool false, .slice none 0 0] := by
    rw [hv]
    exact lay_new [.int .i64 c.id, .int .i64 c.lf, .int .i64 c.pl, .int .i64 0, .int .i64 0, .int .i64 0, .int .i64 0, .int .i64 0, .int .i64 0, .int .i64 0, .int .i64 0, .int .i64 0, .bool false, .slice none 0 0] _ (by simp)
  have bV : Below w.heap.size w v := by rw [hv]; go_grown
  clear hv
  have zv := bV.size
  have a3 : v.cell? ⟨w.heap.size, 3, none⟩ = some (.int .i64 c.k) := L0.cell 3 _ rfl
  have a4 : v.cell? ⟨w.heap.size, 4, none⟩ = some (.int .i64 c.wn) := L0.cell 4 _ rfl
  have a5 : v.cell? ⟨w.heap.size, 5, none⟩ = some (.int .i64 c.th) := L0.cell 5 _ rfl
  have a6 : v.cell? ⟨w.heap.size, 6, none⟩ = some (.int .i64 c.fl) := L0.cell 6 _ rfl
  have a7 : v.cell? ⟨w.heap.size, 7, none⟩ = some (.int .i64 c.ac) := L0.cell 7 _ rfl
  have a8 : v.cell? ⟨w.heap.size, 8, none⟩ = some (.int .i64 c.la) := L0.cell 8 _ rfl
  have a9 : v.cell? ⟨w.heap.size, 9, none⟩ = some (.int .i64 c.og) := L0.cell 9 _ rfl
  have a10 : v.cell? ⟨w.heap.size, 10, none⟩ = some (.int .i64 c.st) := L0.cell 10 _ rfl
  have a11 : v.cell? ⟨w.heap.size, 11, none⟩ = some (.int .i64 c.fr) := L0.cell 11 _ rfl
  have a12 : v.cell? ⟨w.heap.size, 12, none⟩ = some (.bool c.sl) := L0.cell 12 _ rfl
  have a13 : v.cell? ⟨w.heap.size, 13, none⟩ = some (.slice a c.xs.length cap) := L0.cell 13 _ rfl
  have b3 : v.cell? ⟨w.heap.size + 1 + 1, 3, none⟩ = some (.int .i64 0) := L2.cell 3 _ rfl
  have b4 : v.cell? ⟨w.heap.size + 1 + 1, 4, none⟩ = some (.int .i64 0) := L2.cell 4 _ rfl
  have b5 : v.cell? ⟨w.heap.size + 1 + 1, 5, none⟩ = some (.int .i64 0) := L2.cell 5 _ rfl
  have b6 : v.cell? ⟨w.heap.size + 1 + 1, 6, none⟩ = some (.int .i64 0) := L2.cell 6 _ rfl
  have b7 : v.cell? ⟨w.heap.size + 1 + 1, 7, none⟩ = some (.int .i64 0) := L2.cell 7 _ rfl
  have b8 : v.cell? ⟨w.heap.size + 1 + 1, 8, none⟩ = some (.int .i64 0) := L2.cell 8 _ rfl
  have b9 : v.cell? ⟨w.heap.size + 1 + 1, 9, none⟩ = some (.int .i64 0) := L2.cell 9 _ rfl
  have b10 : v.cell? ⟨w.heap.size + 1 + 1, 10, none⟩ = some (.int .i64 0) := L2.cell 10 _ rfl
  have b11 : v.cell? ⟨w.heap.size + 1 + 1, 11, none⟩ = some (.int .i64 0) := L2.cell 11 _ rfl
  have b12 : v.cell? ⟨w.heap.size + 1 + 1, 12, none⟩ = some (.bool false) := L2.cell 12 _ rfl
  have b13 : v.cell? ⟨w.heap.size + 1 + 1, 13, none⟩ = some (.slice none 0 0) := L2.cell 13 _ rfl
  have fr2 := L2.free
  go_upto_region 6 with (first | (go_at_call 94; refine (toCc_any _ _ _ _ _ _ _ _ _ _ _).mono ?_; rintro e w2 ⟨rfl, hb2⟩; have M0 := L0.next hb2; have M1 := L1.next hb2; have M2 := L2.next hb2; have ge2 := M2.free; have d3 : w2.cell? ⟨w.heap.size + 1 + 1, 3, none⟩ = some (.int .i64 0) := M2.cell 3 _ rfl; have d4 : w2.cell? ⟨w.heap.size + 1 + 1, 4, none⟩ = some (.int .i64 0) := M2.cell 4 _ rfl; have d5 : w2.cell? ⟨w.heap.size + 1 + 1, 5, none⟩ = some (.int .i64 0) := M2.cell 5 _ rfl; have d6 : w2.cell? ⟨w.heap.size + 1 + 1, 6, none⟩ = some (.int .i64 0) := M2.cell 6 _ rfl; have d7 : w2.cell? ⟨w.heap.size + 1 + 1, 7, none⟩ = some (.int .i64 0) := M2.cell 7 _ rfl; have d8 : w2.cell? ⟨w.heap.size + 1 + 1, 8, none⟩ = some (.int .i64 0) := M2.cell 8 _ rfl; have d9 : w2.cell? ⟨w.heap.size + 1 + 1, 9, none⟩ = some (.int .i64 0) := M2.cell 9 _ rfl; have d10 : w2.cell? ⟨w.heap.size + 1 + 1, 10, none⟩ = some (.int .i64 0) := M2.cell 10 _ rfl; have d11 : w2.cell? ⟨w.heap.size + 1 + 1, 11, none⟩ = some (.int .i64 0) := M2.cell 11 _ rfl; have d12 : w2.cell? ⟨w.heap.size + 1 + 1, 12, none⟩ = some (.bool false) := M2.cell 12 _ rfl; have d13 : w2.cell? ⟨w.heap.size + 1 + 1, 13, none⟩ = some (.slice none 0 0) := M2.cell 13 _ rfl))
  obtain ⟨x, hx⟩ : ∃ x, x = w2.setCells (w.heap.size + 1 + 1) 3 [.int .i64 c.k, .int .i64 c.wn, .int .i64 c.th, .int .i64 c.fl, .int .i64 c.ac, .int .i64 c.la, .int .i64 c.og, .int .i64 c.st, .int .i64 c.fr, .bool c.sl] := ⟨_, rfl⟩
  have hx' : ((((((((((w2.setCell ⟨w.heap.size + 1 + 1, 3, none⟩ (.int .i64 c.k)).setCell ⟨w.heap.size + 1 + 1, 4, none⟩ (.int .i64 c.wn)).setCell ⟨w.heap.size + 1 + 1, 5, none⟩ (.int .i64 c.th)).setCell ⟨w.heap.size + 1 + 1, 6, none⟩ (.int .i64 c.fl)).setCell ⟨w.heap.size + 1 + 1, 7, none⟩ (.int .i64 c.ac)).setCell ⟨w.heap.size + 1 + 1, 8, none⟩ (.int .i64 c.la)).setCell ⟨w.heap.size + 1 + 1, 9, none⟩ (.int .i64 c.og)).setCell ⟨w.heap.size + 1 + 1, 10, none⟩ (.int .i64 c.st)).setCell ⟨w.heap.size + 1 + 1, 11, none⟩ (.int .i64 c.fr)).setCell ⟨w.heap.size + 1 + 1, 12, none⟩ (.bool c.sl)) = x := hx.symm
  rw [hx']
  clear hx'
  have oX : Only (w.heap.size + 1 + 1) w2 x := by rw [hx]; exact onlyCells _ _ _
  have N0 := M0.only oX (by omega)
  have N1 := M1.only oX (by omega)
  have N2 : Lay x (w.heap.size + 1 + 1) [.int .i64 c.id, .int .i64 c.lf, .int .i64 c.pl, .int .i64 c.k, .int .i64 c.wn, .int .i64 c.th, .int .i64 c.fl, .int .i64 c.ac, .int .i64 c.la, .int .i64 c.og, .int .i64 c.st, .int .i64 c.fr, .bool c.sl, .slice none 0 0] := by rw [hx]; exact M2.put (p := [.int .i64 c.id, .int .i64 c.lf, .int .i64 c.pl]) (q := [.int .i64 0, .int .i64 0, .int .i64 0, .int .i64 0, .int .i64 0, .int .i64 0, .int .i64 0, .int .i64 0, .int .i64 0, .bool false]) (r := [.slice none 0 0]) [.int .i64 c.k, .int .i64 c.wn, .int .i64 c.th, .int .i64 c.fl, .int .i64 c.ac, .int .i64 c.la, .int .i64 c.og, .int .i64 c.st, .int .i64 c.fr, .bool c.sl] rfl
  have bX : Below w.heap.size w x := (below_two bV hb2).trans (oX.below (by omega) (by have := (below_two bV hb2).size; omega))
  clear hx d3 d4 d5 d6 d7 d8 d9 d10 d11 d12 d13
  have m13 : x.cell? ⟨w.heap.size, 13, none⟩ = some (.slice a c.xs.length cap) := N0.cell 13 _ rfl
  have n13 : x.cell? ⟨w.heap.size + 1 + 1, 13, none⟩ = some (.slice none 0 0) := N2.cell 13 _ rfl
  have frx := N2.free
  go_upto_region 7 with (first | (go_at_call 93; refine (toInt64S_any cap (h.here bX) hn).mono ?_; rintro e w3 ⟨g, rfl, hg0, hg1, fg, hb3⟩; have P1 := N1.next hb3; have P2 := N2.next hb3; have zx := bX.size; have ge3 := P2.free; have k13 : w3.cell? ⟨w.heap.size + 1 + 1, 13, none⟩ = some (.slice none 0 0) := P2.cell 13 _ rfl))
  obtain ⟨y, hy⟩ : ∃ y, y = w3.setCells (w.heap.size + 1 + 1) 13 [.slice (some ⟨g, 0, none⟩) c.xs.length c.xs.length] := ⟨_, rfl⟩
  have hy' : w3.setCell ⟨w.heap.size + 1 + 1, 13, none⟩ (.slice (some ⟨g, 0, none⟩) c.xs.length c.xs.length) = y := hy.symm
  rw [hy']
  clear hy'
  have oY : Only (w.heap.size + 1 + 1) w3 y := by rw [hy]; exact onlyCells _ _ _
  have Q1 := P1.only oY (by omega)
  have Q2 : Lay y (w.heap.size + 1 + 1) [.int .i64 c.id, .int .i64 c.lf, .int .i64 c.pl, .int .i64 c.k, .int .i64 c.wn, .int .i64 c.th, .int .i64 c.fl, .int .i64 c.ac, .int .i64 c.la, .int .i64 c.og, .int .i64 c.st, .int .i64 c.fr, .bool c.sl, .slice (some ⟨g, 0, none⟩) c.xs.length c.xs.length] := by rw [hy]; exact P2.put (p := [.int .i64 c.id, .int .i64 c.lf, .int .i64 c.pl, .int .i64 c.k, .int .i64 c.wn, .int .i64 c.th, .int .i64 c.fl, .int .i64 c.ac, .int .i64 c.la, .int .i64 c.og, .int .i64 c.st, .int .i64 c.fr, .bool c.sl]) (q := [.slice none 0 0]) (r := []) [.slice (some ⟨g, 0, none⟩) c.xs.length c.xs.length] rfl
  have bY : Below w.heap.size w y := (below_two bX hb3).trans (oY.below (by omega) (by have := (below_two bX hb3).size; omega))
  have lt2 := N2.lt
  have fY : IFill y g c.xs.length c.xs c.xs.length := fg.only oY hg1 (by omega)
  clear hy m13 n13
  have r0 : y.cell? ⟨w.heap.size + 1 + 1, 0, none⟩ = some (.int .i64 c.id) := Q2.cell 0 _ rfl
  have r1 : y.cell? ⟨w.heap.size + 1 + 1, 1, none⟩ = some (.int .i64 c.lf) := Q2.cell 1 _ rfl
  have r2 : y.cell? ⟨w.heap.size + 1 + 1, 2, none⟩ = some (.int .i64 c.pl) := Q2.cell 2 _ rfl
  have r3 : y.cell? ⟨w.heap.size + 1 + 1, 3, none⟩ = some (.int .i64 c.k) := Q2.cell 3 _ rfl
  have r4 : y.cell? ⟨w.heap.size + 1 + 1, 4, none⟩ = some (.int .i64 c.wn) := Q2.cell 4 _ rfl
  have r5 : y.cell? ⟨w.heap.size + 1 + 1, 5, none⟩ = some (.int .i64 c.th) := Q2.cell 5 _ rfl
  have r6 : y.cell? ⟨w.heap.size + 1 + 1, 6, none⟩ = some (.int .i64 c.fl) := Q2.cell 6 _ rfl
  have r7 : y.cell? ⟨w.heap.size + 1 + 1, 7, none⟩ = some (.int .i64 c.ac) := Q2.cell 7 _ rfl
  have r8 : y.cell? ⟨w.heap.size + 1 + 1, 8, none⟩ = some (.int .i64 c.la) := Q2.cell 8 _ rfl
  have r9 : y.cell? ⟨w.heap.size + 1 + 1, 9, none⟩ = some (.int .i64 c.og) := Q2.cell 9 _ rfl
  have r10 : y.cell? ⟨w.heap.size + 1 + 1, 10, none⟩ = some (.int .i64 c.st) := Q2.cell 10 _ rfl
  have r11 : y.cell? ⟨w.heap.size + 1 + 1, 11, none⟩ = some (.int .i64 c.fr) := Q2.cell 11 _ rfl
  have r12 : y.cell? ⟨w.heap.size + 1 + 1, 12, none⟩ = some (.bool c.sl) := Q2.cell 12 _ rfl
  have r13 : y.cell? ⟨w.heap.size + 1 + 1, 13, none⟩ = some (.slice (some ⟨g, 0, none⟩) c.xs.length c.xs.length) := Q2.cell 13 _ rfl
  have t0 : y.cell? ⟨w.heap.size + 1, 0, none⟩ = some (.int .i64 0) := Q1.cell 0 _ rfl
  have t1 : y.cell? ⟨w.heap.size + 1, 1, none⟩ = some (.int .i64 0) := Q1.cell 1 _ rfl
  have t2 : y.cell? ⟨w.heap.size + 1, 2, none⟩ = some (.int .i64 0) := Q1.cell 2 _ rfl
  have t3 : y.cell? ⟨w.heap.size + 1, 3, none⟩ = some (.int .i64 0) := Q1.cell 3 _ rfl
  have t4 : y.cell? ⟨w.heap.size + 1, 4, none⟩ = some (.int .i64 0) := Q1.cell 4 _ rfl
  have t5 : y.cell? ⟨w.heap.size + 1, 5, none⟩ = some (.int .i64 0) := Q1.cell 5 _ rfl
  have t6 : y.cell? ⟨w.heap.size + 1, 6, none⟩ = some (.int .i64 0) := Q1.cell 6 _ rfl
  have t7 : y.cell? ⟨w.heap.size + 1, 7, none⟩ = some (.int .i64 0) := Q1.cell 7 _ rfl
  have t8 : y.cell? ⟨w.heap.size + 1, 8, none⟩ = some (.int .i64 0) := Q1.cell 8 _ rfl
  have t9 : y.cell? ⟨w.heap.size + 1, 9, none⟩ = some (.int .i64 0) := Q1.cell 9 _ rfl
  have t10 : y.cell? ⟨w.heap.size + 1, 10, none⟩ = some (.int .i64 0) := Q1.cell 10 _ rfl
  have t11 : y.cell? ⟨w.heap.size + 1, 11, none⟩ = some (.int .i64 0) := Q1.cell 11 _ rfl
  have t12 : y.cell? ⟨w.heap.size + 1, 12, none⟩ = some (.bool false) := Q1.cell 12 _ rfl
  have t13 : y.cell? ⟨w.heap.size + 1, 13, none⟩ = some (.slice none 0 0) := Q1.cell 13 _ rfl
  have fry := Q1.free
  go_wp2
  obtain ⟨z, hz⟩ : ∃ z, z = y.setCells (w.heap.size + 1) 0 [.int .i64 c.id, .int .i64 c.lf, .int .i64 c.pl, .int .i64 c.k, .int .i64 c.wn, .int .i64 c.th, .int .i64 c.fl, .int .i64 c.ac, .int .i64 c.la, .int .i64 c.og, .int .i64 c.st, .int .i64 c.fr, .bool c.sl, .slice (some ⟨g, 0, none⟩) c.xs.length c.xs.length] := ⟨_, rfl⟩
  have hz' : ((((((((((((((y.setCell ⟨w.heap.size + 1, 0, none⟩ (.int .i64 c.id)).setCell ⟨w.heap.size + 1, 1, none⟩ (.int .i64 c.lf)).setCell ⟨w.heap.size + 1, 2, none⟩ (.int .i64 c.pl)).setCell ⟨w.heap.size + 1, 3, none⟩ (.int .i64 c.k)).setCell ⟨w.heap.size + 1, 4, none⟩ (.int .i64 c.wn)).setCell ⟨w.heap.size + 1, 5, none⟩ (.int .i64 c.th)).setCell ⟨w.heap.size + 1, 6, none⟩ (.int .i64 c.fl)).setCell ⟨w.heap.size + 1, 7, none⟩ (.int .i64 c.ac)).setCell ⟨w.heap.size + 1, 8, none⟩ (.int .i64 c.la)).setCell ⟨w.heap.size + 1, 9, none⟩ (.int .i64 c.og)).setCell ⟨w.heap.size + 1, 10, none⟩ (.int .i64 c.st)).setCell ⟨w.heap.size + 1, 11, none⟩ (.int .i64 c.fr)).setCell ⟨w.heap.size + 1, 12, none⟩ (.bool c.sl)).setCell ⟨w.heap.size + 1, 13, none⟩ (.slice (some ⟨g, 0, none⟩) c.xs.length c.xs.length)) = z := hz.symm
  rw [hz']
  clear hz'
  have oZ : Only (w.heap.size + 1) y z := by rw [hz]; exact onlyCells _ _ _
  have R1 : Lay z (w.heap.size + 1) [.int .i64 c.id, .int .i64 c.lf, .int .i64 c.pl, .int .i64 c.k, .int .i64 c.wn, .int .i64 c.th, .int .i64 c.fl, .int .i64 c.ac, .int .i64 c.la, .int .i64 c.og, .int .i64 c.st, .int .i64 c.fr, .bool c.sl, .slice (some ⟨g, 0, none⟩) c.xs.length c.xs.length] := by rw [hz]; exact Q1.put (p := []) (q := [.int .i64 0, .int .i64 0, .int .i64 0, .int .i64 0, .int .i64 0, .int .i64 0, .int .i64 0, .int .i64 0, .int .i64 0, .int .i64 0, .int .i64 0, .int .i64 0, .bool false, .slice none 0 0]) (r := []) [.int .i64 c.id, .int .i64 c.lf, .int .i64 c.pl, .int .i64 c.k, .int .i64 c.wn, .int .i64 c.th, .int .i64 c.fl, .int .i64 c.ac, .int .i64 c.la, .int .i64 c.og, .int .i64 c.st, .int .i64 c.fr, .bool c.sl, .slice (some ⟨g, 0, none⟩) c.xs.length c.xs.length] rfl
  have zy := oY.size
  have zz := oZ.size
  refine bodyPost_ret (results_one rfl _ _ _ [.int .i64 c.id, .int .i64 c.lf, .int .i64 c.pl, .int .i64 c.k, .int .i64 c.wn, .int .i64 c.th, .int .i64 c.fl, .int .i64 c.ac, .int .i64 c.la, .int .i64 c.og, .int .i64 c.st, .int .i64 c.fr, .bool c.sl, .slice (some ⟨g, 0, none⟩) c.xs.length c.xs.length] rfl R1.cell Try.underlying64 rfl (by kernel_rfl)) rfl ?_
  exact ⟨g, rfl, by omega, by omega, fY.only oZ (by omega) (by omega), bY.trans (oZ.below (by omega) bY.size)⟩
end Go.Proofs.Ytibfclfidaofkas
namespace Go.Proofs.Ytibfclfidaofkas
open Go.ChangeShapes Go.WideShapes Go.ChangeAt Go.RowKit
set_option maxRecDepth 100000
set_option linter.unusedVariables false
set_option linter.unusedSimpArgs false

theorem info_conn : (Try.prog.info? 64).map (fun i => (i.zero, i.size, i.bytes)) = some (some (.agg #[.int .i64 0, .int .i64 0, .int .i64 0, .int .i64 0, .int .i64 0, .int .i64 0, .int .i64 0, .int .i64 0, .int .i64 0, .int .i64 0, .int .i64 0, .int .i64 0, .bool false, .slice none 0 0]), 14, 128) := by kernel_rfl
theorem made_conn (v : Value) (n j : Nat) (h : j < n * 14) : ∃ z, (madeCells v.cells (n * 14)).toList[j]? = some z := by
  rw [Array.getElem?_toList]
  unfold madeCells
  rw [Array.getElem?_map, Array.getElem?_eq_getElem (by simpa using h)]
  exact ⟨_, rfl⟩
set_option maxHeartbeats 4000000 in
theorem toConnS_any {w : World} {a : Option Addr} (cap : Nat) {ks : List Kn} (h : Kls w.heap.size w a ks) (hn : ks.length ≤ 1048576) (hs : ∀ c ∈ ks, c.xs.length ≤ 1048576) :
    Calls Try.prog 28 #[.slice a ks.length cap] w fun e w' => ∃ g vs, e = .returned (.slice (some ⟨g, 0, none⟩) ks.length ks.length) ∧ KO w' w.heap.size w'.heap.size g ks.length vs ks ∧ Below w.heap.size w w' := by
  obtain ⟨i0, hi, hz0, hz1, hz2⟩ := info_parts info_conn
  go_enter Try.func28, Try.ntmps28
  go_wp2_with (first
    | (at_make; refine wpList_make_full _ rfl _ _ 37 rfl w.heap.size 64 i0 _ 14 Try.underlying37 hi hz0 hz1 _ _ _ _ ks.length rfl rfl rfl rfl (by rw [hz2]; omega) (by unfold maxLen; omega) (Nat.le_refl _) ?_; intro w1 own1 gr1))
  have hb1 : Below w.heap.size w w1 := (Below.refl _ _).grown gr1 (Nat.le_refl _) (fun k hk => by cases hk)
  have hg1 : w.heap.size < w1.heap.size := (own1.lt _ rfl).2
  have f1 : KO w1 w.heap.size w1.heap.size w.heap.size ks.length [] (ks.take 0) := ⟨Nat.le_refl _, hg1, Nat.le_refl _, by simp, by simp, fun j hj => ⟨by
    have hc := own1.cellAt j hj
    rw [hc]
    exact made_conn _ _ j hj, own1.frozenAt j⟩, (fun i hi => by simp at hi), (fun i hi => by simp at hi), (fun i hi => by cases hi), (fun i j hi => by cases hi)⟩
  go_loopw [4] (fun i wr => ∃ (k : Nat) (vs : List Value), i = .int .i64 k ∧ k ≤ ks.length ∧ KO wr w.heap.size wr.heap.size w.heap.size ks.length vs (ks.take k) ∧ Below w.heap.size w wr) (fun i _ => ks.length - (intOf i).toNat)
  case atStart => exact ⟨0, [], rfl, by omega, f1, hb1⟩
  case round =>
    obtain ⟨k, vs, rfl, hk, f, hb⟩ := hrel
    by_cases hlt : k < ks.length
    · obtain ⟨b, off, sa, sc, rfl, hbl, c0, c13, hsm⟩ := h.at hb k hlt
      have hlt' : (k : Int) < (ks.length : Int) := by omega
      have hsk := hs _ (List.getElem_mem hlt)
      have HT : Hid (ks.take (k + 1) = ks.take k ++ [ks[k]]) := List.take_succ_eq_append_getElem hlt
      obtain ⟨c, hx⟩ : ∃ c, ks[k] = c := ⟨_, rfl⟩
      rw [hx] at c0 c13 hsm hsk HT
      clear hx
      have d0 : wr.cell? ⟨b, off + k * 14, none⟩ = some (.int .i64 c.id) := c0 0 _ rfl
      have d1 : wr.cell? ⟨b, off + k * 14 + 1, none⟩ = some (.int .i64 c.lf) := c0 1 _ rfl
      have d2 : wr.cell? ⟨b, off + k * 14 + 2, none⟩ = some (.int .i64 c.pl) := c0 2 _ rfl
      have d3 : wr.cell? ⟨b, off + k * 14 + 3, none⟩ = some (.int .i64 c.k) := c0 3 _ rfl
      have d4 : wr.cell? ⟨b, off + k * 14 + 4, none⟩ = some (.int .i64 c.wn) := c0 4 _ rfl
      have d5 : wr.cell? ⟨b, off + k * 14 + 5, none⟩ = some (.int .i64 c.th) := c0 5 _ rfl
      have d6 : wr.cell? ⟨b, off + k * 14 + 6, none⟩ = some (.int .i64 c.fl) := c0 6 _ rfl
      have d7 : wr.cell? ⟨b, off + k * 14 + 7, none⟩ = some (.int .i64 c.ac) := c0 7 _ rfl
      have d8 : wr.cell? ⟨b, off + k * 14 + 8, none⟩ = some (.int .i64 c.la) := c0 8 _ rfl
      have d9 : wr.cell? ⟨b, off + k * 14 + 9, none⟩ = some (.int .i64 c.og) := c0 9 _ rfl
      have d10 : wr.cell? ⟨b, off + k * 14 + 10, none⟩ = some (.int .i64 c.st) := c0 10 _ rfl
      have d11 : wr.cell? ⟨b, off + k * 14 + 11, none⟩ = some (.int .i64 c.fr) := c0 11 _ rfl
      have d12 : wr.cell? ⟨b, off + k * 14 + 12, none⟩ = some (.bool c.sl) := c0 12 _ rfl
      clear c0
      have hzb := hb.size
      have hg := f.g1
      have hlen : (ks.take k).length = k := by rw [List.length_take]; omega
      go_wp2_with (first
        | (go_at_call 63; refine (toConn_any sc c (hsm.up hzb) hsk).mono ?_; rintro e w2 ⟨g2, rfl, hg20, hg21, f2, hb2⟩; have F : Hid (KO w2 w.heap.size wr.heap.size w.heap.size ks.length vs (ks.take k)) := f.next hb2; obtain ⟨⟨y0, e0⟩, u0⟩ := F.out.any (k * 14) (by omega); obtain ⟨⟨y1, e1⟩, u1⟩ := F.out.any (k * 14 + 1) (by omega); obtain ⟨⟨y2, e2⟩, u2⟩ := F.out.any (k * 14 + 2) (by omega); obtain ⟨⟨y3, e3⟩, u3⟩ := F.out.any (k * 14 + 3) (by omega); obtain ⟨⟨y4, e4⟩, u4⟩ := F.out.any (k * 14 + 4) (by omega); obtain ⟨⟨y5, e5⟩, u5⟩ := F.out.any (k * 14 + 5) (by omega); obtain ⟨⟨y6, e6⟩, u6⟩ := F.out.any (k * 14 + 6) (by omega); obtain ⟨⟨y7, e7⟩, u7⟩ := F.out.any (k * 14 + 7) (by omega); obtain ⟨⟨y8, e8⟩, u8⟩ := F.out.any (k * 14 + 8) (by omega); obtain ⟨⟨y9, e9⟩, u9⟩ := F.out.any (k * 14 + 9) (by omega); obtain ⟨⟨y10, e10⟩, u10⟩ := F.out.any (k * 14 + 10) (by omega); obtain ⟨⟨y11, e11⟩, u11⟩ := F.out.any (k * 14 + 11) (by omega); obtain ⟨⟨y12, e12⟩, u12⟩ := F.out.any (k * 14 + 12) (by omega); obtain ⟨⟨y13, e13⟩, u13⟩ := F.out.any (k * 14 + 13) (by omega)))
      have hio : IO w2 w.heap.size w2.heap.size (.slice (some ⟨g2, 0, none⟩) c.xs.length c.xs.length) c.xs := IV.io (.inl ⟨g2, _, rfl, by omega, hg21, f2, Nat.le_refl _⟩)
      have hp := F.out.push (k := k) hlen.symm hlt c hio (fun b e => by have := el_at e; omega)
      rw [← HT.out] at hp
      have hz2 := hb2.size
      have hp' : KO (w2.setCells w.heap.size (k * 14) (c.cs ++ [.slice (some ⟨g2, 0, none⟩) c.xs.length c.xs.length])) w.heap.size (w2.setCells w.heap.size (k * 14) (c.cs ++ [.slice (some ⟨g2, 0, none⟩) c.xs.length c.xs.length])).heap.size w.heap.size ks.length (vs ++ [.slice (some ⟨g2, 0, none⟩) c.xs.length c.xs.length]) (ks.take (k + 1)) := by rw [sizeCells]; exact hp
      have hbz : Below w.heap.size w (w2.setCells w.heap.size (k * 14) (c.cs ++ [.slice (some ⟨g2, 0, none⟩) c.xs.length c.xs.length])) := (below_step hb hb2).trans ((onlyCells _ _ _).below (Nat.le_refl _) (by omega))
      exact ⟨⟨k + 1, _, by go_num, by omega, hp', hbz⟩, by simp [intOf]; omega⟩
    · have e : k = ks.length := by omega
      subst e
      rw [List.take_length] at f
      go_wp2
      go_ret
      exact ⟨_, _, rfl, f, hb⟩
end Go.Proofs.Ytibfclfidaofkas
