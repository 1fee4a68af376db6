/- The laws' copy of an Engine. -/
import Derived.Test.YtibfclfidaofkasEngOwn
import Derived.Test.YtibfclfidaofkasGrpW
import Derived.Test.YtibfclfidaofkasGrpZ
import Derived.Test.YtibfclfidaofkasPls
namespace Go.Proofs.Ytibfclfidaofkas
open Go.ChangeShapes Go.WideShapes Go.ChangeAt Go.RowKit
set_option maxRecDepth 100000
set_option linter.unusedVariables false
set_option linter.unusedSimpArgs false

set_option maxHeartbeats 8000000 in
theorem toEngine_any {w : World} (now : Int) {aT : Option Addr} (cT : Nat) {T : List Q4} {aO : Option Addr} (cO : Nat) {O : List Q4} {aP : Option Addr} (cP : Nat) {P : List Q4} {aL : Option Addr} (cL : Nat) {L : List F8} {aK : Option Addr} (cK : Nat) {K : List Kn} (nx : Int) (hT : Quad w.heap.size w aT T) (hO : Quad w.heap.size w aO O) (hP : Quad w.heap.size w aP P) (hL : Fls w.heap.size w aL L) (hK : Kls w.heap.size w aK K) (nT : T.length ≤ 1048576) (nO : O.length ≤ 1048576) (nP : P.length ≤ 1048576) (nL : L.length ≤ 1048576) (sL : ∀ f ∈ L, f.2.2.length ≤ 1048576) (nK : K.length ≤ 1048576) (sK : ∀ c ∈ K, c.xs.length ≤ 1048576) :
    Calls Try.prog 7 #[engV now aT T.length cT aO O.length cO aP P.length cP aL L.length cL aK K.length cK nx] w fun e w' => ∃ gT gO gP gL gK, e = .returned (engV now (some ⟨gT, 0, none⟩) T.length T.length (some ⟨gO, 0, none⟩) O.length O.length (some ⟨gP, 0, none⟩) P.length P.length (some ⟨gL, 0, none⟩) L.length L.length (some ⟨gK, 0, none⟩) K.length K.length nx) ∧ Eng w' w.heap.size w'.heap.size (.slice (some ⟨gT, 0, none⟩) T.length T.length) (.slice (some ⟨gO, 0, none⟩) O.length O.length) (.slice (some ⟨gP, 0, none⟩) P.length P.length) (.slice (some ⟨gL, 0, none⟩) L.length L.length) (.slice (some ⟨gK, 0, none⟩) K.length K.length) T O P L K ∧ Below w.heap.size w w' := by
  go_enter Try.func7, Try.ntmps7
  go_upto_region 3 with (fail)
  obtain ⟨v, hv⟩ : ∃ v, v = ((w.alloc (.cells #[.int .i64 now, .slice aT T.length cT, .slice aO O.length cO, .slice aP P.length cP, .slice aL L.length cL, .slice aK K.length cK, .int .i64 nx] 29)).alloc (.cells #[.int .i64 0, .slice none 0 0, .slice none 0 0, .slice none 0 0, .slice none 0 0, .slice none 0 0, .int .i64 0] 39)).alloc (.cells #[.int .i64 now, .slice none 0 0, .slice none 0 0, .slice none 0 0, .slice none 0 0, .slice none 0 0, .int .i64 0] 39) := ⟨_, rfl⟩
  rw [← hv]
  have v0 : Lay v (w.heap.size) [.int .i64 now, .slice aT T.length cT, .slice aO O.length cO, .slice aP P.length cP, .slice aL L.length cL, .slice aK K.length cK, .int .i64 nx] := by
    rw [hv]
    exact (lay_new [.int .i64 now, .slice aT T.length cT, .slice aO O.length cO, .slice aP P.length cP, .slice aL L.length cL, .slice aK K.length cK, .int .i64 nx] _ rfl).alloc _ _ |>.alloc _ _
  have v1 : Lay v (w.heap.size + 1) [.int .i64 0, .slice none 0 0, .slice none 0 0, .slice none 0 0, .slice none 0 0, .slice none 0 0, .int .i64 0] := by
    rw [hv]
    exact (lay_new [.int .i64 0, .slice none 0 0, .slice none 0 0, .slice none 0 0, .slice none 0 0, .slice none 0 0, .int .i64 0] _ (by simp)).alloc _ _
  have v2 : Lay v (w.heap.size + 1 + 1) [.int .i64 now, .slice none 0 0, .slice none 0 0, .slice none 0 0, .slice none 0 0, .slice none 0 0, .int .i64 0] := by
    rw [hv]
    exact lay_new [.int .i64 now, .slice none 0 0, .slice none 0 0, .slice none 0 0, .slice none 0 0, .slice none 0 0, .int .i64 0] _ (by simp)
  have bV : Below w.heap.size w v := by rw [hv]; go_grown
  clear hv
  have zv := v2.lt
  have a1 : v.cell? ⟨w.heap.size, 1, none⟩ = some (.slice aT T.length cT) := v0.cell 1 _ rfl
  have a2 : v.cell? ⟨w.heap.size, 2, none⟩ = some (.slice aO O.length cO) := v0.cell 2 _ rfl
  have a3 : v.cell? ⟨w.heap.size, 3, none⟩ = some (.slice aP P.length cP) := v0.cell 3 _ rfl
  have b1 : v.cell? ⟨w.heap.size + 1 + 1, 1, none⟩ = some (.slice none 0 0) := v2.cell 1 _ rfl
  have b2 : v.cell? ⟨w.heap.size + 1 + 1, 2, none⟩ = some (.slice none 0 0) := v2.cell 2 _ rfl
  have b3 : v.cell? ⟨w.heap.size + 1 + 1, 3, none⟩ = some (.slice none 0 0) := v2.cell 3 _ rfl
  have fv := v2.free
  go_upto_region 4 with (first | (go_at_call 26; refine (toLend_any cT cO cP (hT.here bV) (hO.here bV) (hP.here bV) nT nO nP).mono ?_; rintro e p ⟨gT, gO, gP, rfl, lp, hbp⟩; have p0 := v0.next hbp; have p1 := v1.next hbp; have p2 := v2.next hbp; have fp := p2.free; have c1 : p.cell? ⟨w.heap.size + 1 + 1, 1, none⟩ = some (.slice none 0 0) := p2.cell 1 _ rfl; have c2 : p.cell? ⟨w.heap.size + 1 + 1, 2, none⟩ = some (.slice none 0 0) := p2.cell 2 _ rfl; have c3 : p.cell? ⟨w.heap.size + 1 + 1, 3, none⟩ = some (.slice none 0 0) := p2.cell 3 _ rfl))
  obtain ⟨q, hx⟩ : ∃ nw, nw = p.setCells (w.heap.size + 1 + 1) 1 [.slice (some ⟨gT, 0, none⟩) T.length T.length, .slice (some ⟨gO, 0, none⟩) O.length O.length, .slice (some ⟨gP, 0, none⟩) P.length P.length] := ⟨_, rfl⟩
  have hx' : (((p.setCell ⟨w.heap.size + 1 + 1, 1, none⟩ (.slice (some ⟨gT, 0, none⟩) T.length T.length)).setCell ⟨w.heap.size + 1 + 1, 2, none⟩ (.slice (some ⟨gO, 0, none⟩) O.length O.length)).setCell ⟨w.heap.size + 1 + 1, 3, none⟩ (.slice (some ⟨gP, 0, none⟩) P.length P.length)) = q := hx.symm
  rw [hx']
  clear hx'
  have oq : Only (w.heap.size + 1 + 1) p q := by rw [hx]; exact onlyCells _ _ _
  have q2 : Lay q (w.heap.size + 1 + 1) [.int .i64 now, .slice (some ⟨gT, 0, none⟩) T.length T.length, .slice (some ⟨gO, 0, none⟩) O.length O.length, .slice (some ⟨gP, 0, none⟩) P.length P.length, .slice none 0 0, .slice none 0 0, .int .i64 0] := by rw [hx]; exact p2.put (p := [.int .i64 now]) (q := [.slice none 0 0, .slice none 0 0, .slice none 0 0]) (r := [.slice none 0 0, .slice none 0 0, .int .i64 0]) [.slice (some ⟨gT, 0, none⟩) T.length T.length, .slice (some ⟨gO, 0, none⟩) O.length O.length, .slice (some ⟨gP, 0, none⟩) P.length P.length] rfl
  have q0 := p0.only oq (by omega)
  have q1 := p1.only oq (by omega)
  clear hx
  have bp := below_two bV hbp
  have zp := hbp.size
  have lq : LV q (v.heap.size) (.slice (some ⟨gT, 0, none⟩) T.length T.length) (.slice (some ⟨gO, 0, none⟩) O.length O.length) (.slice (some ⟨gP, 0, none⟩) P.length P.length) T O P := lp.onlyP (p := fun k => k = w.heap.size + 1 + 1) ⟨oq.os, oq.tape, oq.output, oq.size, fun k hk hn => oq.block k hk hn⟩ (fun b e e' => by have := (lp.t.own e).1; omega) (fun b e e' => by have := (lp.o.own e).1; omega) (fun b e e' => by have := (lp.p.own e).1; omega)
  have lqb : ∀ b, inL (.slice (some ⟨gT, 0, none⟩) T.length T.length) (.slice (some ⟨gO, 0, none⟩) O.length O.length) (.slice (some ⟨gP, 0, none⟩) P.length P.length) b → b < q.heap.size := fun b hb => (lq.lo hb).2
  have bq : Below w.heap.size w q := bp.trans (oq.below (by omega) (by have := bp.size; omega))
  have zq := oq.size
  clear c1 c2 c3 a1 a2 a3 b1 b2 b3 fv fp
  have a4 : q.cell? ⟨w.heap.size, 4, none⟩ = some (.slice aL L.length cL) := q0.cell 4 _ rfl
  have b4 : q.cell? ⟨w.heap.size + 1 + 1, 4, none⟩ = some (.slice none 0 0) := q2.cell 4 _ rfl
  have fq := q2.free
  have HL : Hid (LV q (v.heap.size) (.slice (some ⟨gT, 0, none⟩) T.length T.length) (.slice (some ⟨gO, 0, none⟩) O.length O.length) (.slice (some ⟨gP, 0, none⟩) P.length P.length) T O P) := lq
  clear lq lp
  go_upto_region 5 with (first | (go_at_call 27; refine (toPlaceS_any cL (hL.here bq) nL sL).mono ?_; rintro e r ⟨gL, vs, rfl, ro, hbr⟩; have r0 := q0.next hbr; have r1 := q1.next hbr; have r2 := q2.next hbr; have fr := r2.free; have c4 : r.cell? ⟨w.heap.size + 1 + 1, 4, none⟩ = some (.slice none 0 0) := r2.cell 4 _ rfl))
  have zr := hbr.size
  have rl := HL.out.next hbr
  have rt : TV r q.heap.size r.heap.size (.slice (some ⟨gL, 0, none⟩) L.length L.length) L := .inl ⟨gL, _, vs, rfl, Nat.le_refl _, ro⟩
  have br := below_two bq hbr
  obtain ⟨s, hx⟩ : ∃ nw, nw = r.setCells (w.heap.size + 1 + 1) 4 [.slice (some ⟨gL, 0, none⟩) L.length L.length] := ⟨_, rfl⟩
  have hx' : (r.setCell ⟨w.heap.size + 1 + 1, 4, none⟩ (.slice (some ⟨gL, 0, none⟩) L.length L.length)) = s := hx.symm
  rw [hx']
  clear hx'
  have os : Only (w.heap.size + 1 + 1) r s := by rw [hx]; exact onlyCells _ _ _
  have s2 : Lay s (w.heap.size + 1 + 1) [.int .i64 now, .slice (some ⟨gT, 0, none⟩) T.length T.length, .slice (some ⟨gO, 0, none⟩) O.length O.length, .slice (some ⟨gP, 0, none⟩) P.length P.length, .slice (some ⟨gL, 0, none⟩) L.length L.length, .slice none 0 0, .int .i64 0] := by rw [hx]; exact r2.put (p := [.int .i64 now, .slice (some ⟨gT, 0, none⟩) T.length T.length, .slice (some ⟨gO, 0, none⟩) O.length O.length, .slice (some ⟨gP, 0, none⟩) P.length P.length]) (q := [.slice none 0 0]) (r := [.slice none 0 0, .int .i64 0]) [.slice (some ⟨gL, 0, none⟩) L.length L.length] rfl
  have s0 := r0.only os (by omega)
  have s1 := r1.only os (by omega)
  clear hx
  have zs := os.size
  have sl : LV s (v.heap.size) (.slice (some ⟨gT, 0, none⟩) T.length T.length) (.slice (some ⟨gO, 0, none⟩) O.length O.length) (.slice (some ⟨gP, 0, none⟩) P.length P.length) T O P := rl.onlyP (p := fun k => k = w.heap.size + 1 + 1) ⟨os.os, os.tape, os.output, os.size, fun k hk hn => os.block k hk hn⟩ (fun b e e' => by have := (rl.t.own e).1; omega) (fun b e e' => by have := (rl.o.own e).1; omega) (fun b e e' => by have := (rl.p.own e).1; omega)
  have st : TV s q.heap.size r.heap.size (.slice (some ⟨gL, 0, none⟩) L.length L.length) L := rt.same os.size (fun b a1 a2 a3 => os.block b a3 (by omega))
  have bs : Below w.heap.size w s := br.trans (os.below (by omega) (by have := br.size; omega))
  clear c4 a4 b4 fq fr rl rt ro
  have a5 : s.cell? ⟨w.heap.size, 5, none⟩ = some (.slice aK K.length cK) := s0.cell 5 _ rfl
  have b5 : s.cell? ⟨w.heap.size + 1 + 1, 5, none⟩ = some (.slice none 0 0) := s2.cell 5 _ rfl
  have fs := s2.free
  have HS : Hid (LV s (v.heap.size) (.slice (some ⟨gT, 0, none⟩) T.length T.length) (.slice (some ⟨gO, 0, none⟩) O.length O.length) (.slice (some ⟨gP, 0, none⟩) P.length P.length) T O P) := sl
  have HT2 : Hid (TV s q.heap.size r.heap.size (.slice (some ⟨gL, 0, none⟩) L.length L.length) L) := st
  clear sl st HL
  go_upto_region 6 with (first | (go_at_call 28; refine (toConnS_any cK (hK.here bs) nK sK).mono ?_; rintro e x ⟨gK, us, rfl, xo, hbx⟩; have x0 := s0.next hbx; have x1 := s1.next hbx; have x2 := s2.next hbx; have fx := x2.free; have c5 : x.cell? ⟨w.heap.size + 1 + 1, 5, none⟩ = some (.slice none 0 0) := x2.cell 5 _ rfl))
  have zx := hbx.size
  have xe : EOwn x v.heap.size q.heap.size q.heap.size r.heap.size s.heap.size x.heap.size (.slice (some ⟨gT, 0, none⟩) T.length T.length) (.slice (some ⟨gO, 0, none⟩) O.length O.length) (.slice (some ⟨gP, 0, none⟩) P.length P.length) (.slice (some ⟨gL, 0, none⟩) L.length L.length) (.slice (some ⟨gK, 0, none⟩) K.length K.length) T O P L K := ⟨HS.out.next hbx, lqb, HT2.out.next hbx, .inl ⟨gK, _, us, rfl, Nat.le_refl _, xo⟩, .inl (Nat.le_refl _), .inl (by omega), .inl zs, by omega, by omega, Nat.le_refl _⟩
  have bx := below_two bs hbx
  obtain ⟨y, hx⟩ : ∃ nw, nw = x.setCells (w.heap.size + 1 + 1) 5 [.slice (some ⟨gK, 0, none⟩) K.length K.length] := ⟨_, rfl⟩
  have hx' : (x.setCell ⟨w.heap.size + 1 + 1, 5, none⟩ (.slice (some ⟨gK, 0, none⟩) K.length K.length)) = y := hx.symm
  rw [hx']
  clear hx'
  have oy : Only (w.heap.size + 1 + 1) x y := by rw [hx]; exact onlyCells _ _ _
  have y2 : Lay y (w.heap.size + 1 + 1) [.int .i64 now, .slice (some ⟨gT, 0, none⟩) T.length T.length, .slice (some ⟨gO, 0, none⟩) O.length O.length, .slice (some ⟨gP, 0, none⟩) P.length P.length, .slice (some ⟨gL, 0, none⟩) L.length L.length, .slice (some ⟨gK, 0, none⟩) K.length K.length, .int .i64 0] := by rw [hx]; exact x2.put (p := [.int .i64 now, .slice (some ⟨gT, 0, none⟩) T.length T.length, .slice (some ⟨gO, 0, none⟩) O.length O.length, .slice (some ⟨gP, 0, none⟩) P.length P.length, .slice (some ⟨gL, 0, none⟩) L.length L.length]) (q := [.slice none 0 0]) (r := [.int .i64 0]) [.slice (some ⟨gK, 0, none⟩) K.length K.length] rfl
  have y0 := x0.only oy (by omega)
  have y1 := x1.only oy (by omega)
  clear hx
  have zy := oy.size
  have ye := xe.only oy (.inl (by omega)) (.inl (by omega)) (.inl (by omega))
  have by' : Below w.heap.size w y := bx.trans (oy.below (by omega) (by have := bx.size; omega))
  clear c5 a5 b5 fs fx xe xo
  have HE : Hid (EOwn y v.heap.size q.heap.size q.heap.size r.heap.size s.heap.size x.heap.size (.slice (some ⟨gT, 0, none⟩) T.length T.length) (.slice (some ⟨gO, 0, none⟩) O.length O.length) (.slice (some ⟨gP, 0, none⟩) P.length P.length) (.slice (some ⟨gL, 0, none⟩) L.length L.length) (.slice (some ⟨gK, 0, none⟩) K.length K.length) T O P L K) := ye
  clear ye HS HT2 lqb
  have a6 : y.cell? ⟨w.heap.size, 6, none⟩ = some (.int .i64 nx) := y0.cell 6 _ rfl
  have b6 : y.cell? ⟨w.heap.size + 1 + 1, 6, none⟩ = some (.int .i64 0) := y2.cell 6 _ rfl
  have fy := y2.free
  go_upto_region 7 with (fail)
  obtain ⟨z, hx⟩ : ∃ nw, nw = y.setCells (w.heap.size + 1 + 1) 6 [.int .i64 nx] := ⟨_, rfl⟩
  have hx' : (y.setCell ⟨w.heap.size + 1 + 1, 6, none⟩ (.int .i64 nx)) = z := hx.symm
  rw [hx']
  clear hx'
  have oz : Only (w.heap.size + 1 + 1) y z := by rw [hx]; exact onlyCells _ _ _
  have z2 : Lay z (w.heap.size + 1 + 1) [.int .i64 now, .slice (some ⟨gT, 0, none⟩) T.length T.length, .slice (some ⟨gO, 0, none⟩) O.length O.length, .slice (some ⟨gP, 0, none⟩) P.length P.length, .slice (some ⟨gL, 0, none⟩) L.length L.length, .slice (some ⟨gK, 0, none⟩) K.length K.length, .int .i64 nx] := by rw [hx]; exact y2.put (p := [.int .i64 now, .slice (some ⟨gT, 0, none⟩) T.length T.length, .slice (some ⟨gO, 0, none⟩) O.length O.length, .slice (some ⟨gP, 0, none⟩) P.length P.length, .slice (some ⟨gL, 0, none⟩) L.length L.length, .slice (some ⟨gK, 0, none⟩) K.length K.length]) (q := [.int .i64 0]) (r := []) [.int .i64 nx] rfl
  have z0 := y0.only oz (by omega)
  have z1 := y1.only oz (by omega)
  clear hx
  have zz := oz.size
  have ze := HE.out.only oz (.inl (by omega)) (.inl (by omega)) (.inl (by omega))
  have bz : Below w.heap.size w z := by'.trans (oz.below (by omega) (by have := by'.size; omega))
  clear a6 b6 fy
  have HZ : Hid (EOwn z v.heap.size q.heap.size q.heap.size r.heap.size s.heap.size x.heap.size (.slice (some ⟨gT, 0, none⟩) T.length T.length) (.slice (some ⟨gO, 0, none⟩) O.length O.length) (.slice (some ⟨gP, 0, none⟩) P.length P.length) (.slice (some ⟨gL, 0, none⟩) L.length L.length) (.slice (some ⟨gK, 0, none⟩) K.length K.length) T O P L K) := ze
  clear ze HE
  have a0 : z.cell? ⟨w.heap.size + 1 + 1, 0, none⟩ = some (.int .i64 now) := z2.cell 0 _ rfl
  have a1 : z.cell? ⟨w.heap.size + 1 + 1, 1, none⟩ = some (.slice (some ⟨gT, 0, none⟩) T.length T.length) := z2.cell 1 _ rfl
  have a2 : z.cell? ⟨w.heap.size + 1 + 1, 2, none⟩ = some (.slice (some ⟨gO, 0, none⟩) O.length O.length) := z2.cell 2 _ rfl
  have a3 : z.cell? ⟨w.heap.size + 1 + 1, 3, none⟩ = some (.slice (some ⟨gP, 0, none⟩) P.length P.length) := z2.cell 3 _ rfl
  have a4 : z.cell? ⟨w.heap.size + 1 + 1, 4, none⟩ = some (.slice (some ⟨gL, 0, none⟩) L.length L.length) := z2.cell 4 _ rfl
  have a5 : z.cell? ⟨w.heap.size + 1 + 1, 5, none⟩ = some (.slice (some ⟨gK, 0, none⟩) K.length K.length) := z2.cell 5 _ rfl
  have a6 : z.cell? ⟨w.heap.size + 1 + 1, 6, none⟩ = some (.int .i64 nx) := z2.cell 6 _ rfl
  have b0 : z.cell? ⟨w.heap.size + 1, 0, none⟩ = some (.int .i64 0) := z1.cell 0 _ rfl
  have b1 : z.cell? ⟨w.heap.size + 1, 1, none⟩ = some (.slice none 0 0) := z1.cell 1 _ rfl
  have b2 : z.cell? ⟨w.heap.size + 1, 2, none⟩ = some (.slice none 0 0) := z1.cell 2 _ rfl
  have b3 : z.cell? ⟨w.heap.size + 1, 3, none⟩ = some (.slice none 0 0) := z1.cell 3 _ rfl
  have b4 : z.cell? ⟨w.heap.size + 1, 4, none⟩ = some (.slice none 0 0) := z1.cell 4 _ rfl
  have b5 : z.cell? ⟨w.heap.size + 1, 5, none⟩ = some (.slice none 0 0) := z1.cell 5 _ rfl
  have b6 : z.cell? ⟨w.heap.size + 1, 6, none⟩ = some (.int .i64 0) := z1.cell 6 _ rfl
  have fz := z1.free
  go_wp2
  obtain ⟨u, hu⟩ : ∃ u, u = z.setCells (w.heap.size + 1) 0 [.int .i64 now, .slice (some ⟨gT, 0, none⟩) T.length T.length, .slice (some ⟨gO, 0, none⟩) O.length O.length, .slice (some ⟨gP, 0, none⟩) P.length P.length, .slice (some ⟨gL, 0, none⟩) L.length L.length, .slice (some ⟨gK, 0, none⟩) K.length K.length, .int .i64 nx] := ⟨_, rfl⟩
  have hu' : (((((((z.setCell ⟨w.heap.size + 1, 0, none⟩ (.int .i64 now)).setCell ⟨w.heap.size + 1, 1, none⟩ (.slice (some ⟨gT, 0, none⟩) T.length T.length)).setCell ⟨w.heap.size + 1, 2, none⟩ (.slice (some ⟨gO, 0, none⟩) O.length O.length)).setCell ⟨w.heap.size + 1, 3, none⟩ (.slice (some ⟨gP, 0, none⟩) P.length P.length)).setCell ⟨w.heap.size + 1, 4, none⟩ (.slice (some ⟨gL, 0, none⟩) L.length L.length)).setCell ⟨w.heap.size + 1, 5, none⟩ (.slice (some ⟨gK, 0, none⟩) K.length K.length)).setCell ⟨w.heap.size + 1, 6, none⟩ (.int .i64 nx)) = u := hu.symm
  rw [hu']
  clear hu'
  have ou : Only (w.heap.size + 1) z u := by rw [hu]; exact onlyCells _ _ _
  have u1 : Lay u (w.heap.size + 1) [.int .i64 now, .slice (some ⟨gT, 0, none⟩) T.length T.length, .slice (some ⟨gO, 0, none⟩) O.length O.length, .slice (some ⟨gP, 0, none⟩) P.length P.length, .slice (some ⟨gL, 0, none⟩) L.length L.length, .slice (some ⟨gK, 0, none⟩) K.length K.length, .int .i64 nx] := by rw [hu]; exact z1.put (p := []) (q := [.int .i64 0, .slice none 0 0, .slice none 0 0, .slice none 0 0, .slice none 0 0, .slice none 0 0, .int .i64 0]) (r := []) [.int .i64 now, .slice (some ⟨gT, 0, none⟩) T.length T.length, .slice (some ⟨gO, 0, none⟩) O.length O.length, .slice (some ⟨gP, 0, none⟩) P.length P.length, .slice (some ⟨gL, 0, none⟩) L.length L.length, .slice (some ⟨gK, 0, none⟩) K.length K.length, .int .i64 nx] rfl
  have zu := ou.size
  refine bodyPost_ret (results_one rfl _ _ _ [.int .i64 now, .slice (some ⟨gT, 0, none⟩) T.length T.length, .slice (some ⟨gO, 0, none⟩) O.length O.length, .slice (some ⟨gP, 0, none⟩) P.length P.length, .slice (some ⟨gL, 0, none⟩) L.length L.length, .slice (some ⟨gK, 0, none⟩) K.length K.length, .int .i64 nx] rfl u1.cell Try.underlying39 rfl (by kernel_rfl)) rfl ?_
  exact ⟨gT, gO, gP, gL, gK, rfl, ⟨_, _, _, _, _, _, ⟨by omega, by omega, by omega⟩, ⟨by omega, by omega, by omega⟩, HZ.out.only ou (.inl (by omega)) (.inl (by omega)) (.inl (by omega))⟩, bz.trans (ou.below (by omega) bz.size)⟩
end Go.Proofs.Ytibfclfidaofkas
