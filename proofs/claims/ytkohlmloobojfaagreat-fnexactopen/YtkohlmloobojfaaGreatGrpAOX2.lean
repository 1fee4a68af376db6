/- Lemmas on the way, of several texts: ConToS, EngTo, ConEq, EngLaw. -/
import Derived.Test.YtkohlmloobojfaaGreatGrpAOX1
import Derived.Test.YtkohlmloobojfaaGreatGrpAD
import Derived.Test.YtkohlmloobojfaaGreatGrpAF
import Derived.Test.YtkohlmloobojfaaGreatGrpAK
import Derived.Test.YtkohlmloobojfaaGreatGrpAO
namespace Go.Proofs.YtkohlmloobojfaaGreat
open Go.ChangeShapes Go.WideShapes Go.ChangeAt Go.RowKit
set_option maxRecDepth 100000
set_option linter.unusedVariables false
set_option linter.unusedSimpArgs false
theorem info_conn : (Tryz.prog.info? 66).map (fun i => (i.zero, i.size, i.bytes)) = some (some (.agg #[.int .i64 0, .int .i64 0, .int .i64 0, .int .i64 0, .int .i64 0, .int .i64 0, .int .i64 0, .int .i64 0, .int .i64 0, .int .i64 0, .int .i64 0, .int .i64 0, .bool false, .slice none 0 0]), 14, 128) := by kernel_rfl
theorem made_conn (v : Value) (n j : Nat) (h : j < n * 14) : ∃ z, (madeCells v.cells (n * 14)).toList[j]? = some z := by
  rw [Array.getElem?_toList]
  unfold madeCells
  rw [Array.getElem?_map, Array.getElem?_eq_getElem (by simpa using h)]
  exact ⟨_, rfl⟩
set_option maxHeartbeats 4000000 in
theorem toConnS_any {w : World} {a : Option Addr} (cap : Nat) {ks : List Kn} (h : Kls w.heap.size w a ks) (hn : ks.length ≤ 1048576) (hs : ∀ c ∈ ks, c.xs.length ≤ 1048576) :
    Calls Tryz.prog 34 #[.slice a ks.length cap] w fun e w' => ∃ g vs, e = .returned (.slice (some ⟨g, 0, none⟩) ks.length ks.length) ∧ KO w' w.heap.size w'.heap.size g ks.length vs ks ∧ Below w.heap.size w w' := by
  obtain ⟨i0, hi, hz0, hz1, hz2⟩ := info_parts info_conn
  go_enter Tryz.func34, Tryz.ntmps34
  go_wp2_with (first
    | (at_make; refine wpList_make_full _ rfl _ _ 36 rfl w.heap.size 66 i0 _ 14 Tryz.underlying36 hi hz0 hz1 _ _ _ _ ks.length rfl rfl rfl rfl (by rw [hz2]; omega) (by unfold maxLen; omega) (Nat.le_refl _) ?_; intro w1 own1 gr1))
  have hb1 : Below w.heap.size w w1 := (Below.refl _ _).grown gr1 (Nat.le_refl _) (fun k hk => by cases hk)
  have hg1 : w.heap.size < w1.heap.size := (own1.lt _ rfl).2
  have f1 : KO w1 w.heap.size w1.heap.size w.heap.size ks.length [] (ks.take 0) := ⟨Nat.le_refl _, hg1, Nat.le_refl _, by simp, by simp, fun j hj => ⟨by
    have hc := own1.cellAt j hj
    rw [hc]
    exact made_conn _ _ j hj, own1.frozenAt j⟩, (fun i hi => by simp at hi), (fun i hi => by simp at hi), (fun i hi => by cases hi), (fun i j hi => by cases hi)⟩
  go_loopw [4] (fun i wr => ∃ (k : Nat) (vs : List Value), i = .int .i64 k ∧ k ≤ ks.length ∧ KO wr w.heap.size wr.heap.size w.heap.size ks.length vs (ks.take k) ∧ Below w.heap.size w wr) (fun i _ => ks.length - (intOf i).toNat)
  case atStart => exact ⟨0, [], rfl, by omega, f1, hb1⟩
  case round =>
    obtain ⟨k, vs, rfl, hk, f, hb⟩ := hrel
    by_cases hlt : k < ks.length
    · obtain ⟨b, off, sa, sc, rfl, hbl, c0, c13, hsm⟩ := h.at hb k hlt
      have hlt' : (k : Int) < (ks.length : Int) := by omega
      have hsk := hs _ (List.getElem_mem hlt)
      have HT : Hid (ks.take (k + 1) = ks.take k ++ [ks[k]]) := List.take_succ_eq_append_getElem hlt
      obtain ⟨c, hx⟩ : ∃ c, ks[k] = c := ⟨_, rfl⟩
      rw [hx] at c0 c13 hsm hsk HT
      clear hx
      have d0 : wr.cell? ⟨b, off + k * 14, none⟩ = some (.int .i64 c.id) := c0 0 _ rfl
      have d1 : wr.cell? ⟨b, off + k * 14 + 1, none⟩ = some (.int .i64 c.lf) := c0 1 _ rfl
      have d2 : wr.cell? ⟨b, off + k * 14 + 2, none⟩ = some (.int .i64 c.pl) := c0 2 _ rfl
      have d3 : wr.cell? ⟨b, off + k * 14 + 3, none⟩ = some (.int .i64 c.k) := c0 3 _ rfl
      have d4 : wr.cell? ⟨b, off + k * 14 + 4, none⟩ = some (.int .i64 c.wn) := c0 4 _ rfl
      have d5 : wr.cell? ⟨b, off + k * 14 + 5, none⟩ = some (.int .i64 c.th) := c0 5 _ rfl
      have d6 : wr.cell? ⟨b, off + k * 14 + 6, none⟩ = some (.int .i64 c.fl) := c0 6 _ rfl
      have d7 : wr.cell? ⟨b, off + k * 14 + 7, none⟩ = some (.int .i64 c.ac) := c0 7 _ rfl
      have d8 : wr.cell? ⟨b, off + k * 14 + 8, none⟩ = some (.int .i64 c.la) := c0 8 _ rfl
      have d9 : wr.cell? ⟨b, off + k * 14 + 9, none⟩ = some (.int .i64 c.og) := c0 9 _ rfl
      have d10 : wr.cell? ⟨b, off + k * 14 + 10, none⟩ = some (.int .i64 c.st) := c0 10 _ rfl
      have d11 : wr.cell? ⟨b, off + k * 14 + 11, none⟩ = some (.int .i64 c.fr) := c0 11 _ rfl
      have d12 : wr.cell? ⟨b, off + k * 14 + 12, none⟩ = some (.bool c.sl) := c0 12 _ rfl
      clear c0
      have hzb := hb.size
      have hg := f.g1
      have hlen : (ks.take k).length = k := by rw [List.length_take]; omega
      go_wp2_with (first
        | (go_at_call 75; refine (toConn_any sc c (hsm.up hzb) hsk).mono ?_; rintro e w2 ⟨g2, rfl, hg20, hg21, f2, hb2⟩; have F : Hid (KO w2 w.heap.size wr.heap.size w.heap.size ks.length vs (ks.take k)) := f.next hb2; obtain ⟨⟨y0, e0⟩, u0⟩ := F.out.any (k * 14) (by omega); obtain ⟨⟨y1, e1⟩, u1⟩ := F.out.any (k * 14 + 1) (by omega); obtain ⟨⟨y2, e2⟩, u2⟩ := F.out.any (k * 14 + 2) (by omega); obtain ⟨⟨y3, e3⟩, u3⟩ := F.out.any (k * 14 + 3) (by omega); obtain ⟨⟨y4, e4⟩, u4⟩ := F.out.any (k * 14 + 4) (by omega); obtain ⟨⟨y5, e5⟩, u5⟩ := F.out.any (k * 14 + 5) (by omega); obtain ⟨⟨y6, e6⟩, u6⟩ := F.out.any (k * 14 + 6) (by omega); obtain ⟨⟨y7, e7⟩, u7⟩ := F.out.any (k * 14 + 7) (by omega); obtain ⟨⟨y8, e8⟩, u8⟩ := F.out.any (k * 14 + 8) (by omega); obtain ⟨⟨y9, e9⟩, u9⟩ := F.out.any (k * 14 + 9) (by omega); obtain ⟨⟨y10, e10⟩, u10⟩ := F.out.any (k * 14 + 10) (by omega); obtain ⟨⟨y11, e11⟩, u11⟩ := F.out.any (k * 14 + 11) (by omega); obtain ⟨⟨y12, e12⟩, u12⟩ := F.out.any (k * 14 + 12) (by omega); obtain ⟨⟨y13, e13⟩, u13⟩ := F.out.any (k * 14 + 13) (by omega)))
      have hio : IO w2 w.heap.size w2.heap.size (.slice (some ⟨g2, 0, none⟩) c.xs.length c.xs.length) c.xs := IV.io (.inl ⟨g2, _, rfl, by omega, hg21, f2, Nat.le_refl _⟩)
      have hp := F.out.push (k := k) hlen.symm hlt c hio (fun b e => by have := el_at e; omega)
      rw [← HT.out] at hp
      have hz2 := hb2.size
      have hp' : KO (w2.setCells w.heap.size (k * 14) (c.cs ++ [.slice (some ⟨g2, 0, none⟩) c.xs.length c.xs.length])) w.heap.size (w2.setCells w.heap.size (k * 14) (c.cs ++ [.slice (some ⟨g2, 0, none⟩) c.xs.length c.xs.length])).heap.size w.heap.size ks.length (vs ++ [.slice (some ⟨g2, 0, none⟩) c.xs.length c.xs.length]) (ks.take (k + 1)) := by rw [sizeCells]; exact hp
      have hbz : Below w.heap.size w (w2.setCells w.heap.size (k * 14) (c.cs ++ [.slice (some ⟨g2, 0, none⟩) c.xs.length c.xs.length])) := (below_step hb hb2).trans ((onlyCells _ _ _).below (Nat.le_refl _) (by omega))
      exact ⟨⟨k + 1, _, by go_num, by omega, hp', hbz⟩, by simp [intOf]; omega⟩
    · have e : k = ks.length := by omega
      subst e
      rw [List.take_length] at f
      go_wp2
      go_ret
      exact ⟨_, _, rfl, f, hb⟩
set_option maxHeartbeats 8000000 in
theorem toEngine_any {w : World} (now : Int) {aT : Option Addr} (cT : Nat) {T : List Q4} {aO : Option Addr} (cO : Nat) {O : List Q4} {aP : Option Addr} (cP : Nat) {P : List Q4} {aL : Option Addr} (cL : Nat) {L : List F8} {aK : Option Addr} (cK : Nat) {K : List Kn} (nx : Int) (hT : Quad w.heap.size w aT T) (hO : Quad w.heap.size w aO O) (hP : Quad w.heap.size w aP P) (hL : Fls w.heap.size w aL L) (hK : Kls w.heap.size w aK K) (nT : T.length ≤ 1048576) (nO : O.length ≤ 1048576) (nP : P.length ≤ 1048576) (nL : L.length ≤ 1048576) (sL : ∀ f ∈ L, f.2.2.length ≤ 1048576) (nK : K.length ≤ 1048576) (sK : ∀ c ∈ K, c.xs.length ≤ 1048576) :
    Calls Tryz.prog 9 #[engV now aT T.length cT aO O.length cO aP P.length cP aL L.length cL aK K.length cK nx] w fun e w' => ∃ gT gO gP gL gK, e = .returned (engV now (some ⟨gT, 0, none⟩) T.length T.length (some ⟨gO, 0, none⟩) O.length O.length (some ⟨gP, 0, none⟩) P.length P.length (some ⟨gL, 0, none⟩) L.length L.length (some ⟨gK, 0, none⟩) K.length K.length nx) ∧ Eng w' w.heap.size w'.heap.size (.slice (some ⟨gT, 0, none⟩) T.length T.length) (.slice (some ⟨gO, 0, none⟩) O.length O.length) (.slice (some ⟨gP, 0, none⟩) P.length P.length) (.slice (some ⟨gL, 0, none⟩) L.length L.length) (.slice (some ⟨gK, 0, none⟩) K.length K.length) T O P L K ∧ Below w.heap.size w w' := by
  go_enter Tryz.func9, Tryz.ntmps9
  go_upto_region 3 with (fail)
  obtain ⟨v, hv⟩ : ∃ v, v = ((w.alloc (.cells #[.int .i64 now, .slice aT T.length cT, .slice aO O.length cO, .slice aP P.length cP, .slice aL L.length cL, .slice aK K.length cK, .int .i64 nx] 29)).alloc (.cells #[.int .i64 0, .slice none 0 0, .slice none 0 0, .slice none 0 0, .slice none 0 0, .slice none 0 0, .int .i64 0] 38)).alloc (.cells #[.int .i64 now, .slice none 0 0, .slice none 0 0, .slice none 0 0, .slice none 0 0, .slice none 0 0, .int .i64 0] 38) := ⟨_, rfl⟩
  rw [← hv]
  have v0 : Lay v (w.heap.size) [.int .i64 now, .slice aT T.length cT, .slice aO O.length cO, .slice aP P.length cP, .slice aL L.length cL, .slice aK K.length cK, .int .i64 nx] := by
    rw [hv]
    exact (lay_new [.int .i64 now, .slice aT T.length cT, .slice aO O.length cO, .slice aP P.length cP, .slice aL L.length cL, .slice aK K.length cK, .int .i64 nx] _ rfl).alloc _ _ |>.alloc _ _
  have v1 : Lay v (w.heap.size + 1) [.int .i64 0, .slice none 0 0, .slice none 0 0, .slice none 0 0, .slice none 0 0, .slice none 0 0, .int .i64 0] := by
    rw [hv]
    exact (lay_new [.int .i64 0, .slice none 0 0, .slice none 0 0, .slice none 0 0, .slice none 0 0, .slice none 0 0, .int .i64 0] _ (by simp)).alloc _ _
  have v2 : Lay v (w.heap.size + 1 + 1) [.int .i64 now, .slice none 0 0, .slice none 0 0, .slice none 0 0, .slice none 0 0, .slice none 0 0, .int .i64 0] := by
    rw [hv]
    exact lay_new [.int .i64 now, .slice none 0 0, .slice none 0 0, .slice none 0 0, .slice none 0 0, .slice none 0 0, .int .i64 0] _ (by simp)
  have bV : Below w.heap.size w v := by rw [hv]; go_grown
  clear hv
  have zv := v2.lt
  have a1 : v.cell? ⟨w.heap.size, 1, none⟩ = some (.slice aT T.length cT) := v0.cell 1 _ rfl
  have a2 : v.cell? ⟨w.heap.size, 2, none⟩ = some (.slice aO O.length cO) := v0.cell 2 _ rfl
  have a3 : v.cell? ⟨w.heap.size, 3, none⟩ = some (.slice aP P.length cP) := v0.cell 3 _ rfl
  have b1 : v.cell? ⟨w.heap.size + 1 + 1, 1, none⟩ = some (.slice none 0 0) := v2.cell 1 _ rfl
  have b2 : v.cell? ⟨w.heap.size + 1 + 1, 2, none⟩ = some (.slice none 0 0) := v2.cell 2 _ rfl
  have b3 : v.cell? ⟨w.heap.size + 1 + 1, 3, none⟩ = some (.slice none 0 0) := v2.cell 3 _ rfl
  have fv := v2.free
  go_upto_region 4 with (first | (go_at_call 32; refine (toLend_any cT cO cP (hT.here bV) (hO.here bV) (hP.here bV) nT nO nP).mono ?_; rintro e p ⟨gT, gO, gP, rfl, lp, hbp⟩; have p0 := v0.next hbp; have p1 := v1.next hbp; have p2 := v2.next hbp; have fp := p2.free; have c1 : p.cell? ⟨w.heap.size + 1 + 1, 1, none⟩ = some (.slice none 0 0) := p2.cell 1 _ rfl; have c2 : p.cell? ⟨w.heap.size + 1 + 1, 2, none⟩ = some (.slice none 0 0) := p2.cell 2 _ rfl; have c3 : p.cell? ⟨w.heap.size + 1 + 1, 3, none⟩ = some (.slice none 0 0) := p2.cell 3 _ rfl))
  obtain ⟨q, hx⟩ : ∃ nw, nw = p.setCells (w.heap.size + 1 + 1) 1 [.slice (some ⟨gT, 0, none⟩) T.length T.length, .slice (some ⟨gO, 0, none⟩) O.length O.length, .slice (some ⟨gP, 0, none⟩) P.length P.length] := ⟨_, rfl⟩
  have hx' : (((p.setCell ⟨w.heap.size + 1 + 1, 1, none⟩ (.slice (some ⟨gT, 0, none⟩) T.length T.length)).setCell ⟨w.heap.size + 1 + 1, 2, none⟩ (.slice (some ⟨gO, 0, none⟩) O.length O.length)).setCell ⟨w.heap.size + 1 + 1, 3, none⟩ (.slice (some ⟨gP, 0, none⟩) P.length P.length)) = q := hx.symm
  rw [hx']
  clear hx'
  have oq : Only (w.heap.size + 1 + 1) p q := by rw [hx]; exact onlyCells _ _ _
  have q2 : Lay q (w.heap.size + 1 + 1) [.int .i64 now, .slice (some ⟨gT, 0, none⟩) T.length T.length, .slice (some ⟨gO, 0, none⟩) O.length O.length, .slice (some ⟨gP, 0, none⟩) P.length P.length, .slice none 0 0, .slice none 0 0, .int .i64 0] := by rw [hx]; exact p2.put (p := [.int .i64 now]) (q := [.slice none 0 0, .slice none 0 0, .slice none 0 0]) (r := [.slice none 0 0, .slice none 0 0, .int .i64 0]) [.slice (some ⟨gT, 0, none⟩) T.length T.length, .slice (some ⟨gO, 0, none⟩) O.length O.length, .slice (some ⟨gP, 0, none⟩) P.length P.length] rfl
  have q0 := p0.only oq (by omega)
  have q1 := p1.only oq (by omega)
  clear hx
  have bp := below_two bV hbp
  have zp := hbp.size
  have lq : LV q (v.heap.size) (.slice (some ⟨gT, 0, none⟩) T.length T.length) (.slice (some ⟨gO, 0, none⟩) O.length O.length) (.slice (some ⟨gP, 0, none⟩) P.length P.length) T O P := lp.onlyP (p := fun k => k = w.heap.size + 1 + 1) ⟨oq.os, oq.tape, oq.output, oq.size, fun k hk hn => oq.block k hk hn⟩ (fun b e e' => by have := (lp.t.own e).1; omega) (fun b e e' => by have := (lp.o.own e).1; omega) (fun b e e' => by have := (lp.p.own e).1; omega)
  have lqb : ∀ b, inL (.slice (some ⟨gT, 0, none⟩) T.length T.length) (.slice (some ⟨gO, 0, none⟩) O.length O.length) (.slice (some ⟨gP, 0, none⟩) P.length P.length) b → b < q.heap.size := fun b hb => (lq.lo hb).2
  have bq : Below w.heap.size w q := bp.trans (oq.below (by omega) (by have := bp.size; omega))
  have zq := oq.size
  clear c1 c2 c3 a1 a2 a3 b1 b2 b3 fv fp
  have a4 : q.cell? ⟨w.heap.size, 4, none⟩ = some (.slice aL L.length cL) := q0.cell 4 _ rfl
  have b4 : q.cell? ⟨w.heap.size + 1 + 1, 4, none⟩ = some (.slice none 0 0) := q2.cell 4 _ rfl
  have fq := q2.free
  have HL : Hid (LV q (v.heap.size) (.slice (some ⟨gT, 0, none⟩) T.length T.length) (.slice (some ⟨gO, 0, none⟩) O.length O.length) (.slice (some ⟨gP, 0, none⟩) P.length P.length) T O P) := lq
  clear lq lp
  go_upto_region 5 with (first | (go_at_call 33; refine (toPlaceS_any cL (hL.here bq) nL sL).mono ?_; rintro e r ⟨gL, vs, rfl, ro, hbr⟩; have r0 := q0.next hbr; have r1 := q1.next hbr; have r2 := q2.next hbr; have fr := r2.free; have c4 : r.cell? ⟨w.heap.size + 1 + 1, 4, none⟩ = some (.slice none 0 0) := r2.cell 4 _ rfl))
  have zr := hbr.size
  have rl := HL.out.next hbr
  have rt : TV r q.heap.size r.heap.size (.slice (some ⟨gL, 0, none⟩) L.length L.length) L := .inl ⟨gL, _, vs, rfl, Nat.le_refl _, ro⟩
  have br := below_two bq hbr
  obtain ⟨s, hx⟩ : ∃ nw, nw = r.setCells (w.heap.size + 1 + 1) 4 [.slice (some ⟨gL, 0, none⟩) L.length L.length] := ⟨_, rfl⟩
  have hx' : (r.setCell ⟨w.heap.size + 1 + 1, 4, none⟩ (.slice (some ⟨gL, 0, none⟩) L.length L.length)) = s := hx.symm
  rw [hx']
  clear hx'
  have os : Only (w.heap.size + 1 + 1) r s := by rw [hx]; exact onlyCells _ _ _
  have s2 : Lay s (w.heap.size + 1 + 1) [.int .i64 now, .slice (some ⟨gT, 0, none⟩) T.length T.length, .slice (some ⟨gO, 0, none⟩) O.length O.length, .slice (some ⟨gP, 0, none⟩) P.length P.length, .slice (some ⟨gL, 0, none⟩) L.length L.length, .slice none 0 0, .int .i64 0] := by rw [hx]; exact r2.put (p := [.int .i64 now, .slice (some ⟨gT, 0, none⟩) T.length T.length, .slice (some ⟨gO, 0, none⟩) O.length O.length, .slice (some ⟨gP, 0, none⟩) P.length P.length]) (q := [.slice none 0 0]) (r := [.slice none 0 0, .int .i64 0]) [.slice (some ⟨gL, 0, none⟩) L.length L.length] rfl
  have s0 := r0.only os (by omega)
  have s1 := r1.only os (by omega)
  clear hx
  have zs := os.size
  have sl : LV s (v.heap.size) (.slice (some ⟨gT, 0, none⟩) T.length T.length) (.slice (some ⟨gO, 0, none⟩) O.length O.length) (.slice (some ⟨gP, 0, none⟩) P.length P.length) T O P := rl.onlyP (p := fun k => k = w.heap.size + 1 + 1) ⟨os.os, os.tape, os.output, os.size, fun k hk hn => os.block k hk hn⟩ (fun b e e' => by have := (rl.t.own e).1; omega) (fun b e e' => by have := (rl.o.own e).1; omega) (fun b e e' => by have := (rl.p.own e).1; omega)
  have st : TV s q.heap.size r.heap.size (.slice (some ⟨gL, 0, none⟩) L.length L.length) L := rt.same os.size (fun b a1 a2 a3 => os.block b a3 (by omega))
  have bs : Below w.heap.size w s := br.trans (os.below (by omega) (by have := br.size; omega))
  clear c4 a4 b4 fq fr rl rt ro
  have a5 : s.cell? ⟨w.heap.size, 5, none⟩ = some (.slice aK K.length cK) := s0.cell 5 _ rfl
  have b5 : s.cell? ⟨w.heap.size + 1 + 1, 5, none⟩ = some (.slice none 0 0) := s2.cell 5 _ rfl
  have fs := s2.free
  have HS : Hid (LV s (v.heap.size) (.slice (some ⟨gT, 0, none⟩) T.length T.length) (.slice (some ⟨gO, 0, none⟩) O.length O.length) (.slice (some ⟨gP, 0, none⟩) P.length P.length) T O P) := sl
  have HT2 : Hid (TV s q.heap.size r.heap.size (.slice (some ⟨gL, 0, none⟩) L.length L.length) L) := st
  clear sl st HL
  go_upto_region 6 with (first | (go_at_call 34; refine (toConnS_any cK (hK.here bs) nK sK).mono ?_; rintro e x ⟨gK, us, rfl, xo, hbx⟩; have x0 := s0.next hbx; have x1 := s1.next hbx; have x2 := s2.next hbx; have fx := x2.free; have c5 : x.cell? ⟨w.heap.size + 1 + 1, 5, none⟩ = some (.slice none 0 0) := x2.cell 5 _ rfl))
  have zx := hbx.size
  have xe : EInt x v.heap.size q.heap.size q.heap.size r.heap.size s.heap.size x.heap.size (.slice (some ⟨gT, 0, none⟩) T.length T.length) (.slice (some ⟨gO, 0, none⟩) O.length O.length) (.slice (some ⟨gP, 0, none⟩) P.length P.length) (.slice (some ⟨gL, 0, none⟩) L.length L.length) (.slice (some ⟨gK, 0, none⟩) K.length K.length) T O P L K := ⟨HS.out.next hbx, lqb, HT2.out.next hbx, .inl ⟨gK, _, us, rfl, Nat.le_refl _, xo⟩, .inl (Nat.le_refl _), .inl (by omega), .inl zs, by omega, by omega, Nat.le_refl _⟩
  have bx := below_two bs hbx
  obtain ⟨y, hx⟩ : ∃ nw, nw = x.setCells (w.heap.size + 1 + 1) 5 [.slice (some ⟨gK, 0, none⟩) K.length K.length] := ⟨_, rfl⟩
  have hx' : (x.setCell ⟨w.heap.size + 1 + 1, 5, none⟩ (.slice (some ⟨gK, 0, none⟩) K.length K.length)) = y := hx.symm
  rw [hx']
  clear hx'
  have oy : Only (w.heap.size + 1 + 1) x y := by rw [hx]; exact onlyCells _ _ _
  have y2 : Lay y (w.heap.size + 1 + 1) [.int .i64 now, .slice (some ⟨gT, 0, none⟩) T.length T.length, .slice (some ⟨gO, 0, none⟩) O.length O.length, .slice (some ⟨gP, 0, none⟩) P.length P.length, .slice (some ⟨gL, 0, none⟩) L.length L.length, .slice (some ⟨gK, 0, none⟩) K.length K.length, .int .i64 0] := by rw [hx]; exact x2.put (p := [.int .i64 now, .slice (some ⟨gT, 0, none⟩) T.length T.length, .slice (some ⟨gO, 0, none⟩) O.length O.length, .slice (some ⟨gP, 0, none⟩) P.length P.length, .slice (some ⟨gL, 0, none⟩) L.length L.length]) (q := [.slice none 0 0]) (r := [.int .i64 0]) [.slice (some ⟨gK, 0, none⟩) K.length K.length] rfl
  have y0 := x0.only oy (by omega)
  have y1 := x1.only oy (by omega)
  clear hx
  have zy := oy.size
  have ye := xe.only oy (.inl (by omega)) (.inl (by omega)) (.inl (by omega))
  have by' : Below w.heap.size w y := bx.trans (oy.below (by omega) (by have := bx.size; omega))
  clear c5 a5 b5 fs fx xe xo
  have HE : Hid (EInt y v.heap.size q.heap.size q.heap.size r.heap.size s.heap.size x.heap.size (.slice (some ⟨gT, 0, none⟩) T.length T.length) (.slice (some ⟨gO, 0, none⟩) O.length O.length) (.slice (some ⟨gP, 0, none⟩) P.length P.length) (.slice (some ⟨gL, 0, none⟩) L.length L.length) (.slice (some ⟨gK, 0, none⟩) K.length K.length) T O P L K) := ye
  clear ye HS HT2 lqb
  have a6 : y.cell? ⟨w.heap.size, 6, none⟩ = some (.int .i64 nx) := y0.cell 6 _ rfl
  have b6 : y.cell? ⟨w.heap.size + 1 + 1, 6, none⟩ = some (.int .i64 0) := y2.cell 6 _ rfl
  have fy := y2.free
  go_upto_region 7 with (fail)
  obtain ⟨z, hx⟩ : ∃ nw, nw = y.setCells (w.heap.size + 1 + 1) 6 [.int .i64 nx] := ⟨_, rfl⟩
  have hx' : (y.setCell ⟨w.heap.size + 1 + 1, 6, none⟩ (.int .i64 nx)) = z := hx.symm
  rw [hx']
  clear hx'
  have oz : Only (w.heap.size + 1 + 1) y z := by rw [hx]; exact onlyCells _ _ _
  have z2 : Lay z (w.heap.size + 1 + 1) [.int .i64 now, .slice (some ⟨gT, 0, none⟩) T.length T.length, .slice (some ⟨gO, 0, none⟩) O.length O.length, .slice (some ⟨gP, 0, none⟩) P.length P.length, .slice (some ⟨gL, 0, none⟩) L.length L.length, .slice (some ⟨gK, 0, none⟩) K.length K.length, .int .i64 nx] := by rw [hx]; exact y2.put (p := [.int .i64 now, .slice (some ⟨gT, 0, none⟩) T.length T.length, .slice (some ⟨gO, 0, none⟩) O.length O.length, .slice (some ⟨gP, 0, none⟩) P.length P.length, .slice (some ⟨gL, 0, none⟩) L.length L.length, .slice (some ⟨gK, 0, none⟩) K.length K.length]) (q := [.int .i64 0]) (r := []) [.int .i64 nx] rfl
  have z0 := y0.only oz (by omega)
  have z1 := y1.only oz (by omega)
  clear hx
  have zz := oz.size
  have ze := HE.out.only oz (.inl (by omega)) (.inl (by omega)) (.inl (by omega))
  have bz : Below w.heap.size w z := by'.trans (oz.below (by omega) (by have := by'.size; omega))
  clear a6 b6 fy
  have HZ : Hid (EInt z v.heap.size q.heap.size q.heap.size r.heap.size s.heap.size x.heap.size (.slice (some ⟨gT, 0, none⟩) T.length T.length) (.slice (some ⟨gO, 0, none⟩) O.length O.length) (.slice (some ⟨gP, 0, none⟩) P.length P.length) (.slice (some ⟨gL, 0, none⟩) L.length L.length) (.slice (some ⟨gK, 0, none⟩) K.length K.length) T O P L K) := ze
  clear ze HE
  obtain ⟨a0, a1, a2, a3, a4, a5, a6⟩ := Lay.c7 (b := w.heap.size + 1 + 1) z2
  obtain ⟨b0, b1, b2, b3, b4, b5, b6⟩ := Lay.c7 (b := w.heap.size + 1) z1
  have fz := z1.free
  go_wp2
  obtain ⟨u, hu⟩ : ∃ u, u = z.setCells (w.heap.size + 1) 0 [.int .i64 now, .slice (some ⟨gT, 0, none⟩) T.length T.length, .slice (some ⟨gO, 0, none⟩) O.length O.length, .slice (some ⟨gP, 0, none⟩) P.length P.length, .slice (some ⟨gL, 0, none⟩) L.length L.length, .slice (some ⟨gK, 0, none⟩) K.length K.length, .int .i64 nx] := ⟨_, rfl⟩
  have hu' : (((((((z.setCell ⟨w.heap.size + 1, 0, none⟩ (.int .i64 now)).setCell ⟨w.heap.size + 1, 1, none⟩ (.slice (some ⟨gT, 0, none⟩) T.length T.length)).setCell ⟨w.heap.size + 1, 2, none⟩ (.slice (some ⟨gO, 0, none⟩) O.length O.length)).setCell ⟨w.heap.size + 1, 3, none⟩ (.slice (some ⟨gP, 0, none⟩) P.length P.length)).setCell ⟨w.heap.size + 1, 4, none⟩ (.slice (some ⟨gL, 0, none⟩) L.length L.length)).setCell ⟨w.heap.size + 1, 5, none⟩ (.slice (some ⟨gK, 0, none⟩) K.length K.length)).setCell ⟨w.heap.size + 1, 6, none⟩ (.int .i64 nx)) = u := hu.symm
  rw [hu']
  clear hu'
  have ou : Only (w.heap.size + 1) z u := by rw [hu]; exact onlyCells _ _ _
  have u1 : Lay u (w.heap.size + 1) [.int .i64 now, .slice (some ⟨gT, 0, none⟩) T.length T.length, .slice (some ⟨gO, 0, none⟩) O.length O.length, .slice (some ⟨gP, 0, none⟩) P.length P.length, .slice (some ⟨gL, 0, none⟩) L.length L.length, .slice (some ⟨gK, 0, none⟩) K.length K.length, .int .i64 nx] := by rw [hu]; exact z1.put (p := []) (q := [.int .i64 0, .slice none 0 0, .slice none 0 0, .slice none 0 0, .slice none 0 0, .slice none 0 0, .int .i64 0]) (r := []) [.int .i64 now, .slice (some ⟨gT, 0, none⟩) T.length T.length, .slice (some ⟨gO, 0, none⟩) O.length O.length, .slice (some ⟨gP, 0, none⟩) P.length P.length, .slice (some ⟨gL, 0, none⟩) L.length L.length, .slice (some ⟨gK, 0, none⟩) K.length K.length, .int .i64 nx] rfl
  have zu := ou.size
  refine bodyPost_ret (results_one rfl _ _ _ [.int .i64 now, .slice (some ⟨gT, 0, none⟩) T.length T.length, .slice (some ⟨gO, 0, none⟩) O.length O.length, .slice (some ⟨gP, 0, none⟩) P.length P.length, .slice (some ⟨gL, 0, none⟩) L.length L.length, .slice (some ⟨gK, 0, none⟩) K.length K.length, .int .i64 nx] rfl u1.cell Tryz.underlying38 rfl (by kernel_rfl)) rfl ?_
  exact ⟨gT, gO, gP, gL, gK, rfl, Eng.ofI ⟨_, _, _, _, _, _, ⟨by omega, by omega, by omega⟩, ⟨by omega, by omega, by omega⟩, HZ.out.only ou (.inl (by omega)) (.inl (by omega)) (.inl (by omega))⟩, bz.trans (ou.below (by omega) bz.size)⟩
set_option maxHeartbeats 4000000 in
theorem eqConn_same {w : World} {a b : Option Addr} (cap cap' : Nat) (c : Kn) (ha : ISmp w.heap.size w a c.xs) (hb : ISmp w.heap.size w b c.xs) (hn : c.xs.length ≤ 4611686018427387904) :
    Calls Tryz.prog 107 #[.agg #[.int .i64 c.id, .int .i64 c.lf, .int .i64 c.pl, .int .i64 c.k, .int .i64 c.wn, .int .i64 c.th, .int .i64 c.fl, .int .i64 c.ac, .int .i64 c.la, .int .i64 c.og, .int .i64 c.st, .int .i64 c.fr, .bool c.sl, .slice a c.xs.length cap], .agg #[.int .i64 c.id, .int .i64 c.lf, .int .i64 c.pl, .int .i64 c.k, .int .i64 c.wn, .int .i64 c.th, .int .i64 c.fl, .int .i64 c.ac, .int .i64 c.la, .int .i64 c.og, .int .i64 c.st, .int .i64 c.fr, .bool c.sl, .slice b c.xs.length cap']] w fun e w' => e = .returned (.bool true) ∧ Below w.heap.size w w' := by
  have nb : Below w.heap.size w ((w.alloc (.cells #[.int .i64 c.id, .int .i64 c.lf, .int .i64 c.pl, .int .i64 c.k, .int .i64 c.wn, .int .i64 c.th, .int .i64 c.fl, .int .i64 c.ac, .int .i64 c.la, .int .i64 c.og, .int .i64 c.st, .int .i64 c.fr, .bool c.sl, .slice a c.xs.length cap] 66)).alloc (.cells #[.int .i64 c.id, .int .i64 c.lf, .int .i64 c.pl, .int .i64 c.k, .int .i64 c.wn, .int .i64 c.th, .int .i64 c.fl, .int .i64 c.ac, .int .i64 c.la, .int .i64 c.og, .int .i64 c.st, .int .i64 c.fr, .bool c.sl, .slice b c.xs.length cap'] 66)) := by go_grown
  have L0 : Lay ((w.alloc (.cells #[.int .i64 c.id, .int .i64 c.lf, .int .i64 c.pl, .int .i64 c.k, .int .i64 c.wn, .int .i64 c.th, .int .i64 c.fl, .int .i64 c.ac, .int .i64 c.la, .int .i64 c.og, .int .i64 c.st, .int .i64 c.fr, .bool c.sl, .slice a c.xs.length cap] 66)).alloc (.cells #[.int .i64 c.id, .int .i64 c.lf, .int .i64 c.pl, .int .i64 c.k, .int .i64 c.wn, .int .i64 c.th, .int .i64 c.fl, .int .i64 c.ac, .int .i64 c.la, .int .i64 c.og, .int .i64 c.st, .int .i64 c.fr, .bool c.sl, .slice b c.xs.length cap'] 66)) w.heap.size [.int .i64 c.id, .int .i64 c.lf, .int .i64 c.pl, .int .i64 c.k, .int .i64 c.wn, .int .i64 c.th, .int .i64 c.fl, .int .i64 c.ac, .int .i64 c.la, .int .i64 c.og, .int .i64 c.st, .int .i64 c.fr, .bool c.sl, .slice a c.xs.length cap] := (lay_new [.int .i64 c.id, .int .i64 c.lf, .int .i64 c.pl, .int .i64 c.k, .int .i64 c.wn, .int .i64 c.th, .int .i64 c.fl, .int .i64 c.ac, .int .i64 c.la, .int .i64 c.og, .int .i64 c.st, .int .i64 c.fr, .bool c.sl, .slice a c.xs.length cap] _ rfl).alloc _ _
  have L1 : Lay ((w.alloc (.cells #[.int .i64 c.id, .int .i64 c.lf, .int .i64 c.pl, .int .i64 c.k, .int .i64 c.wn, .int .i64 c.th, .int .i64 c.fl, .int .i64 c.ac, .int .i64 c.la, .int .i64 c.og, .int .i64 c.st, .int .i64 c.fr, .bool c.sl, .slice a c.xs.length cap] 66)).alloc (.cells #[.int .i64 c.id, .int .i64 c.lf, .int .i64 c.pl, .int .i64 c.k, .int .i64 c.wn, .int .i64 c.th, .int .i64 c.fl, .int .i64 c.ac, .int .i64 c.la, .int .i64 c.og, .int .i64 c.st, .int .i64 c.fr, .bool c.sl, .slice b c.xs.length cap'] 66)) (w.heap.size + 1) [.int .i64 c.id, .int .i64 c.lf, .int .i64 c.pl, .int .i64 c.k, .int .i64 c.wn, .int .i64 c.th, .int .i64 c.fl, .int .i64 c.ac, .int .i64 c.la, .int .i64 c.og, .int .i64 c.st, .int .i64 c.fr, .bool c.sl, .slice b c.xs.length cap'] := lay_new [.int .i64 c.id, .int .i64 c.lf, .int .i64 c.pl, .int .i64 c.k, .int .i64 c.wn, .int .i64 c.th, .int .i64 c.fl, .int .i64 c.ac, .int .i64 c.la, .int .i64 c.og, .int .i64 c.st, .int .i64 c.fr, .bool c.sl, .slice b c.xs.length cap'] _ (by simp)
  go_enter Tryz.func107, Tryz.ntmps107
  go_wp2_with (first
    | (go_at_call 154; refine (eqCc_same _ _ _ _ _ _ _ _ _ _ _).mono ?_; rintro e w2 ⟨rfl, hb2⟩; have s0 : w2.cell? ⟨w.heap.size, 13, none⟩ = some (.slice a c.xs.length cap) := (L0.next hb2).cell 13 _ rfl; have s1 : w2.cell? ⟨w.heap.size + 1, 13, none⟩ = some (.slice b c.xs.length cap') := (L1.next hb2).cell 13 _ rfl; have hbx := below_two nb hb2)
    | (go_at_call 153; refine (eqInts_any cap cap' (ha.here hbx) (hb.here hbx) hn).mono ?_; rintro e w3 ⟨rfl, hb3⟩; rw [decide_eq_true rfl]))
  go_ret
  exact ⟨rfl, below_two hbx hb3⟩
set_option maxHeartbeats 4000000 in
theorem eqConnS_same {w : World} {a b : Option Addr} (cap cap' : Nat) {ks : List Kn} (ha : Kls w.heap.size w a ks) (hb : Kls w.heap.size w b ks) (hn : ks.length ≤ 4611686018427387904) (hm : ∀ c ∈ ks, c.xs.length ≤ 4611686018427387904) :
    Calls Tryz.prog 44 #[.slice a ks.length cap, .slice b ks.length cap'] w fun e w' => e = .returned (.bool true) ∧ Below w.heap.size w w' := by
  go_enter Tryz.func44, Tryz.ntmps44
  go_wp2
  go_loopw [5] (fun i wr => ∃ k : Nat, i = .int .i64 k ∧ k ≤ ks.length ∧ Below w.heap.size w wr) (fun i _ => ks.length - (intOf i).toNat)
  case atStart => exact ⟨0, rfl, by omega, by go_grown⟩
  case round =>
    obtain ⟨k, rfl, hk, hbw⟩ := hrel
    by_cases hlt : k < ks.length
    · obtain ⟨b1, o1, s1, sc1, rfl, hb1, c0, c13, m1⟩ := ha.at hbw k hlt
      obtain ⟨b2, o2, s2, sc2, rfl, hb2, d0, d13, m2⟩ := hb.at hbw k hlt
      have hlt' : (k : Int) < (ks.length : Int) := by omega
      have hp := hm _ (List.getElem_mem hlt)
      obtain ⟨c, hpp⟩ : ∃ c, ks[k] = c := ⟨_, rfl⟩
      rw [hpp] at c0 c13 m1 d0 d13 m2 hp
      clear hpp
      have p0 : wr.cell? ⟨b1, o1 + k * 14, none⟩ = some (.int .i64 c.id) := c0 0 _ rfl
      have p1 : wr.cell? ⟨b1, o1 + k * 14 + 1, none⟩ = some (.int .i64 c.lf) := c0 1 _ rfl
      have p2 : wr.cell? ⟨b1, o1 + k * 14 + 2, none⟩ = some (.int .i64 c.pl) := c0 2 _ rfl
      have p3 : wr.cell? ⟨b1, o1 + k * 14 + 3, none⟩ = some (.int .i64 c.k) := c0 3 _ rfl
      have p4 : wr.cell? ⟨b1, o1 + k * 14 + 4, none⟩ = some (.int .i64 c.wn) := c0 4 _ rfl
      have p5 : wr.cell? ⟨b1, o1 + k * 14 + 5, none⟩ = some (.int .i64 c.th) := c0 5 _ rfl
      have p6 : wr.cell? ⟨b1, o1 + k * 14 + 6, none⟩ = some (.int .i64 c.fl) := c0 6 _ rfl
      have p7 : wr.cell? ⟨b1, o1 + k * 14 + 7, none⟩ = some (.int .i64 c.ac) := c0 7 _ rfl
      have p8 : wr.cell? ⟨b1, o1 + k * 14 + 8, none⟩ = some (.int .i64 c.la) := c0 8 _ rfl
      have p9 : wr.cell? ⟨b1, o1 + k * 14 + 9, none⟩ = some (.int .i64 c.og) := c0 9 _ rfl
      have p10 : wr.cell? ⟨b1, o1 + k * 14 + 10, none⟩ = some (.int .i64 c.st) := c0 10 _ rfl
      have p11 : wr.cell? ⟨b1, o1 + k * 14 + 11, none⟩ = some (.int .i64 c.fr) := c0 11 _ rfl
      have p12 : wr.cell? ⟨b1, o1 + k * 14 + 12, none⟩ = some (.bool c.sl) := c0 12 _ rfl
      have q0 : wr.cell? ⟨b2, o2 + k * 14, none⟩ = some (.int .i64 c.id) := d0 0 _ rfl
      have q1 : wr.cell? ⟨b2, o2 + k * 14 + 1, none⟩ = some (.int .i64 c.lf) := d0 1 _ rfl
      have q2 : wr.cell? ⟨b2, o2 + k * 14 + 2, none⟩ = some (.int .i64 c.pl) := d0 2 _ rfl
      have q3 : wr.cell? ⟨b2, o2 + k * 14 + 3, none⟩ = some (.int .i64 c.k) := d0 3 _ rfl
      have q4 : wr.cell? ⟨b2, o2 + k * 14 + 4, none⟩ = some (.int .i64 c.wn) := d0 4 _ rfl
      have q5 : wr.cell? ⟨b2, o2 + k * 14 + 5, none⟩ = some (.int .i64 c.th) := d0 5 _ rfl
      have q6 : wr.cell? ⟨b2, o2 + k * 14 + 6, none⟩ = some (.int .i64 c.fl) := d0 6 _ rfl
      have q7 : wr.cell? ⟨b2, o2 + k * 14 + 7, none⟩ = some (.int .i64 c.ac) := d0 7 _ rfl
      have q8 : wr.cell? ⟨b2, o2 + k * 14 + 8, none⟩ = some (.int .i64 c.la) := d0 8 _ rfl
      have q9 : wr.cell? ⟨b2, o2 + k * 14 + 9, none⟩ = some (.int .i64 c.og) := d0 9 _ rfl
      have q10 : wr.cell? ⟨b2, o2 + k * 14 + 10, none⟩ = some (.int .i64 c.st) := d0 10 _ rfl
      have q11 : wr.cell? ⟨b2, o2 + k * 14 + 11, none⟩ = some (.int .i64 c.fr) := d0 11 _ rfl
      have q12 : wr.cell? ⟨b2, o2 + k * 14 + 12, none⟩ = some (.bool c.sl) := d0 12 _ rfl
      clear c0 d0
      have HS1 : Hid (ISmp w.heap.size wr.drew s1 c.xs) := m1.mono (Below.refl _ _).drew
      have HS2 : Hid (ISmp w.heap.size wr.drew s2 c.xs) := m2.mono (Below.refl _ _).drew
      clear m1 m2
      have hk0 : (0 : Int) ≤ (k : Int) := by omega
      have hw1 : b1 < wr.drew.heap.size := Nat.lt_of_lt_of_le hb1 hbw.size
      have hw2 : b2 < wr.drew.heap.size := Nat.lt_of_lt_of_le hb2 hbw.size
      go_wp2
      go_region_held3 (fun w' => w'.cell? ⟨b1, o1 + k * 14, none⟩ = some (.int .i64 c.id) ∧ w'.cell? ⟨b1, o1 + k * 14 + 1, none⟩ = some (.int .i64 c.lf) ∧ w'.cell? ⟨b1, o1 + k * 14 + 2, none⟩ = some (.int .i64 c.pl) ∧ w'.cell? ⟨b1, o1 + k * 14 + 3, none⟩ = some (.int .i64 c.k) ∧ w'.cell? ⟨b1, o1 + k * 14 + 4, none⟩ = some (.int .i64 c.wn) ∧ w'.cell? ⟨b1, o1 + k * 14 + 5, none⟩ = some (.int .i64 c.th) ∧ w'.cell? ⟨b1, o1 + k * 14 + 6, none⟩ = some (.int .i64 c.fl) ∧ w'.cell? ⟨b1, o1 + k * 14 + 7, none⟩ = some (.int .i64 c.ac) ∧ w'.cell? ⟨b1, o1 + k * 14 + 8, none⟩ = some (.int .i64 c.la) ∧ w'.cell? ⟨b1, o1 + k * 14 + 9, none⟩ = some (.int .i64 c.og) ∧ w'.cell? ⟨b1, o1 + k * 14 + 10, none⟩ = some (.int .i64 c.st) ∧ w'.cell? ⟨b1, o1 + k * 14 + 11, none⟩ = some (.int .i64 c.fr) ∧ w'.cell? ⟨b1, o1 + k * 14 + 12, none⟩ = some (.bool c.sl) ∧ w'.cell? ⟨b1, o1 + k * 14 + 13, none⟩ = some (.slice s1 c.xs.length sc1) ∧ w'.cell? ⟨b2, o2 + k * 14, none⟩ = some (.int .i64 c.id) ∧ w'.cell? ⟨b2, o2 + k * 14 + 1, none⟩ = some (.int .i64 c.lf) ∧ w'.cell? ⟨b2, o2 + k * 14 + 2, none⟩ = some (.int .i64 c.pl) ∧ w'.cell? ⟨b2, o2 + k * 14 + 3, none⟩ = some (.int .i64 c.k) ∧ w'.cell? ⟨b2, o2 + k * 14 + 4, none⟩ = some (.int .i64 c.wn) ∧ w'.cell? ⟨b2, o2 + k * 14 + 5, none⟩ = some (.int .i64 c.th) ∧ w'.cell? ⟨b2, o2 + k * 14 + 6, none⟩ = some (.int .i64 c.fl) ∧ w'.cell? ⟨b2, o2 + k * 14 + 7, none⟩ = some (.int .i64 c.ac) ∧ w'.cell? ⟨b2, o2 + k * 14 + 8, none⟩ = some (.int .i64 c.la) ∧ w'.cell? ⟨b2, o2 + k * 14 + 9, none⟩ = some (.int .i64 c.og) ∧ w'.cell? ⟨b2, o2 + k * 14 + 10, none⟩ = some (.int .i64 c.st) ∧ w'.cell? ⟨b2, o2 + k * 14 + 11, none⟩ = some (.int .i64 c.fr) ∧ w'.cell? ⟨b2, o2 + k * 14 + 12, none⟩ = some (.bool c.sl) ∧ w'.cell? ⟨b2, o2 + k * 14 + 13, none⟩ = some (.slice s2 c.xs.length sc2)) (go_keep)
        (first | (go_at_call 107; refine (eqConn_same sc1 sc2 c (HS1.out.up (by exact hbw.size)) (HS2.out.up (by exact hbw.size)) hp).mono ?_; rintro e w2 ⟨rfl, hb3⟩; have x0 := (below_cells hb3 _ _ hw1).trans p0; have x1 := (below_cells hb3 _ _ hw1).trans p1; have x2 := (below_cells hb3 _ _ hw1).trans p2; have x3 := (below_cells hb3 _ _ hw1).trans p3; have x4 := (below_cells hb3 _ _ hw1).trans p4; have x5 := (below_cells hb3 _ _ hw1).trans p5; have x6 := (below_cells hb3 _ _ hw1).trans p6; have x7 := (below_cells hb3 _ _ hw1).trans p7; have x8 := (below_cells hb3 _ _ hw1).trans p8; have x9 := (below_cells hb3 _ _ hw1).trans p9; have x10 := (below_cells hb3 _ _ hw1).trans p10; have x11 := (below_cells hb3 _ _ hw1).trans p11; have x12 := (below_cells hb3 _ _ hw1).trans p12; have x13 := (below_cells hb3 _ _ hw1).trans c13; have z0 := (below_cells hb3 _ _ hw2).trans q0; have z1 := (below_cells hb3 _ _ hw2).trans q1; have z2 := (below_cells hb3 _ _ hw2).trans q2; have z3 := (below_cells hb3 _ _ hw2).trans q3; have z4 := (below_cells hb3 _ _ hw2).trans q4; have z5 := (below_cells hb3 _ _ hw2).trans q5; have z6 := (below_cells hb3 _ _ hw2).trans q6; have z7 := (below_cells hb3 _ _ hw2).trans q7; have z8 := (below_cells hb3 _ _ hw2).trans q8; have z9 := (below_cells hb3 _ _ hw2).trans q9; have z10 := (below_cells hb3 _ _ hw2).trans q10; have z11 := (below_cells hb3 _ _ hw2).trans q11; have z12 := (below_cells hb3 _ _ hw2).trans q12; have z13 := (below_cells hb3 _ _ hw2).trans d13; have hbx : Below w.heap.size w w2 := hbw.drew.trans (hb3.mono hbw.size)))
      go_wp2
      go_roundw
      case rel => exact ⟨k + 1, by go_num, by omega, hbx⟩
      case measure => first | (simp [intOf]; done) | (simp [intOf]; omega)
    · have e : k = ks.length := by omega
      subst e
      go_wp2
      go_ret
      exact ⟨rfl, hbw⟩
set_option maxHeartbeats 4000000 in
theorem szEngine_any {w : World} (now : Int) {aT : Option Addr} (cT : Nat) {T : List Q4} {aO : Option Addr} (cO : Nat) {O : List Q4} {aP : Option Addr} (cP : Nat) {P : List Q4} {aL : Option Addr} (cL : Nat) {L : List F8} {aK : Option Addr} (cK : Nat) {K : List Kn} (nx : Int) (hT : Quad w.heap.size w aT T) (hO : Quad w.heap.size w aO O) (hP : Quad w.heap.size w aP P) (hL : Fls w.heap.size w aL L) (hK : Kls w.heap.size w aK K) (mT : T.length ≤ maxLen) (mO : O.length ≤ maxLen) (mP : P.length ≤ maxLen) (mL : L.length ≤ maxLen) (sL : ∀ f ∈ L, f.2.2.length ≤ maxLen) (mK : K.length ≤ maxLen) (sK : ∀ c ∈ K, c.xs.length ≤ maxLen) :
    Calls Tryz.prog 7 #[engV now aT T.length cT aO O.length cO aP P.length cP aL L.length cL aK K.length cK nx, .int .i64 1048576] w fun e w' => e = .returned (.int .i64 (if (T.length : Int) + O.length + P.length + ((L.length : Int) + (sumL L L.length : Int)) + ((K.length : Int) + (sumK K K.length : Int)) ≤ 1048576 then 1048576 - (T.length : Int) - O.length - P.length - (L.length : Int) - (sumL L L.length : Int) - (K.length : Int) - (sumK K K.length : Int) else -1)) ∧ Below w.heap.size w w' := by
  have nb : Below w.heap.size w (w.alloc (.cells #[.int .i64 now, .slice aT T.length cT, .slice aO O.length cO, .slice aP P.length cP, .slice aL L.length cL, .slice aK K.length cK, .int .i64 nx] 29)) := by go_grown
  have L0 : Lay (w.alloc (.cells #[.int .i64 now, .slice aT T.length cT, .slice aO O.length cO, .slice aP P.length cP, .slice aL L.length cL, .slice aK K.length cK, .int .i64 nx] 29)) w.heap.size [.int .i64 now, .slice aT T.length cT, .slice aO O.length cO, .slice aP P.length cP, .slice aL L.length cL, .slice aK K.length cK, .int .i64 nx] := lay_new [.int .i64 now, .slice aT T.length cT, .slice aO O.length cO, .slice aP P.length cP, .slice aL L.length cL, .slice aK K.length cK, .int .i64 nx] _ rfl
  obtain ⟨r, hr⟩ : ∃ r : Int, (if (T.length : Int) + O.length + P.length + ((L.length : Int) + (sumL L L.length : Int)) + ((K.length : Int) + (sumK K K.length : Int)) ≤ 1048576 then 1048576 - (T.length : Int) - O.length - P.length - (L.length : Int) - (sumL L L.length : Int) - (K.length : Int) - (sumK K K.length : Int) else -1) = r := ⟨_, rfl⟩
  have HR : Hid ((if (T.length : Int) + O.length + P.length + ((L.length : Int) + (sumL L L.length : Int)) + ((K.length : Int) + (sumK K K.length : Int)) ≤ 1048576 then 1048576 - (T.length : Int) - O.length - P.length - (L.length : Int) - (sumL L L.length : Int) - (K.length : Int) - (sumK K K.length : Int) else -1) = r) := hr
  rw [hr]
  clear hr
  by_cases h1 : T.length + O.length + P.length ≤ 1048576
  · have f0 : (0 : Int) ≤ 1048576 - (T.length : Int) - (O.length : Int) - (P.length : Int) := by omega
    have f1 : 1048576 - (T.length : Int) - (O.length : Int) - (P.length : Int) ≤ 1048576 := by omega
    by_cases h2 : (L.length : Int) + (sumL L L.length : Int) ≤ 1048576 - (T.length : Int) - (O.length : Int) - (P.length : Int)
    · have f2 : (0 : Int) ≤ 1048576 - (T.length : Int) - (O.length : Int) - (P.length : Int) - (L.length : Int) - (sumL L L.length : Int) := by omega
      have f3 : 1048576 - (T.length : Int) - (O.length : Int) - (P.length : Int) - (L.length : Int) - (sumL L L.length : Int) ≤ 1048576 := by omega
      by_cases h3 : (K.length : Int) + (sumK K K.length : Int) ≤ 1048576 - (T.length : Int) - (O.length : Int) - (P.length : Int) - (L.length : Int) - (sumL L L.length : Int)
      · have f4 : (0 : Int) ≤ 1048576 - (T.length : Int) - (O.length : Int) - (P.length : Int) - (L.length : Int) - (sumL L L.length : Int) - (K.length : Int) - (sumK K K.length : Int) := by omega
        go_enter Tryz.func7, Tryz.ntmps7
        go_wp2_with (first
      | (go_at_call 20; refine (szLend_any aT T.length cT aO O.length cO aP P.length cP _ (by unfold maxLen at mT; omega) (by unfold maxLen at mO; omega) (by unfold maxLen at mP; omega)).mono ?_; rintro e w2 ⟨rfl, hb2⟩; rw [if_pos h1]; have M0 := L0.next hb2; have d4 : w2.cell? ⟨w.heap.size, 4, none⟩ = some (.slice aL L.length cL) := M0.cell 4 _ rfl; have hbx := below_two nb hb2)
      | (go_at_call 21; refine (szPlaceS_gen cL _ f0 f1 (hL.here hbx) mL sL).mono ?_; rintro e w3 ⟨rfl, hb3⟩; rw [if_pos h2]; have M1 := M0.next hb3; have d5 : w3.cell? ⟨w.heap.size, 5, none⟩ = some (.slice aK K.length cK) := M1.cell 5 _ rfl; have hby := below_two hbx hb3)
      | (go_at_call 22; refine (szConnS_gen cK _ f2 f3 (hK.here hby) mK sK).mono ?_; rintro e w4 ⟨rfl, hb4⟩; rw [if_pos h3]; have hbz := below_two hby hb4))
        go_ret
        exact ⟨congrArg (fun x => Ending.returned (.int .i64 x)) ((if_pos (by omega)).symm.trans HR.out), hbz⟩
      · go_enter Tryz.func7, Tryz.ntmps7
        go_wp2_with (first
      | (go_at_call 20; refine (szLend_any aT T.length cT aO O.length cO aP P.length cP _ (by unfold maxLen at mT; omega) (by unfold maxLen at mO; omega) (by unfold maxLen at mP; omega)).mono ?_; rintro e w2 ⟨rfl, hb2⟩; rw [if_pos h1]; have M0 := L0.next hb2; have d4 : w2.cell? ⟨w.heap.size, 4, none⟩ = some (.slice aL L.length cL) := M0.cell 4 _ rfl; have hbx := below_two nb hb2)
      | (go_at_call 21; refine (szPlaceS_gen cL _ f0 f1 (hL.here hbx) mL sL).mono ?_; rintro e w3 ⟨rfl, hb3⟩; rw [if_pos h2]; have M1 := M0.next hb3; have d5 : w3.cell? ⟨w.heap.size, 5, none⟩ = some (.slice aK K.length cK) := M1.cell 5 _ rfl; have hby := below_two hbx hb3)
      | (go_at_call 22; refine (szConnS_gen cK _ f2 f3 (hK.here hby) mK sK).mono ?_; rintro e w4 ⟨rfl, hb4⟩; rw [if_neg (by omega)]; have hbz := below_two hby hb4))
        go_ret
        exact ⟨congrArg (fun x => Ending.returned (.int .i64 x)) ((if_neg (by omega)).symm.trans HR.out), hbz⟩
    · go_enter Tryz.func7, Tryz.ntmps7
      go_wp2_with (first
      | (go_at_call 20; refine (szLend_any aT T.length cT aO O.length cO aP P.length cP _ (by unfold maxLen at mT; omega) (by unfold maxLen at mO; omega) (by unfold maxLen at mP; omega)).mono ?_; rintro e w2 ⟨rfl, hb2⟩; rw [if_pos h1]; have M0 := L0.next hb2; have d4 : w2.cell? ⟨w.heap.size, 4, none⟩ = some (.slice aL L.length cL) := M0.cell 4 _ rfl; have hbx := below_two nb hb2)
      | (go_at_call 21; refine (szPlaceS_gen cL _ f0 f1 (hL.here hbx) mL sL).mono ?_; rintro e w3 ⟨rfl, hb3⟩; rw [if_neg (by omega)]; have M1 := M0.next hb3; have d5 : w3.cell? ⟨w.heap.size, 5, none⟩ = some (.slice aK K.length cK) := M1.cell 5 _ rfl; have hby := below_two hbx hb3))
      go_ret
      exact ⟨congrArg (fun x => Ending.returned (.int .i64 x)) ((if_neg (by omega)).symm.trans HR.out), hby⟩
  · go_enter Tryz.func7, Tryz.ntmps7
    go_wp2_with (first
      | (go_at_call 20; refine (szLend_any aT T.length cT aO O.length cO aP P.length cP _ (by unfold maxLen at mT; omega) (by unfold maxLen at mO; omega) (by unfold maxLen at mP; omega)).mono ?_; rintro e w2 ⟨rfl, hb2⟩; rw [if_neg h1]; have M0 := L0.next hb2; have d4 : w2.cell? ⟨w.heap.size, 4, none⟩ = some (.slice aL L.length cL) := M0.cell 4 _ rfl; have hbx := below_two nb hb2))
    go_ret
    exact ⟨congrArg (fun x => Ending.returned (.int .i64 x)) ((if_neg (by omega)).symm.trans HR.out), hbx⟩
set_option maxHeartbeats 4000000 in
theorem eqEngine_same {w : World} (now : Int) {aT : Option Addr} (cT : Nat) {T : List Q4} {aO : Option Addr} (cO : Nat) {O : List Q4} {aP : Option Addr} (cP : Nat) {P : List Q4} {aL : Option Addr} (cL : Nat) {L : List F8} {aK : Option Addr} (cK : Nat) {K : List Kn} (nx : Int) {bT : Option Addr} (dT : Nat) {bO : Option Addr} (dO : Nat) {bP : Option Addr} (dP : Nat) {bL : Option Addr} (dL : Nat) {bK : Option Addr} (dK : Nat) (hT : Quad w.heap.size w aT T) (hO : Quad w.heap.size w aO O) (hP : Quad w.heap.size w aP P) (hL : Fls w.heap.size w aL L) (hK : Kls w.heap.size w aK K) (hT' : Quad w.heap.size w bT T) (hO' : Quad w.heap.size w bO O) (hP' : Quad w.heap.size w bP P) (hL' : Fls w.heap.size w bL L) (hK' : Kls w.heap.size w bK K)
    (mT : T.length ≤ 4611686018427387904) (mO : O.length ≤ 4611686018427387904) (mP : P.length ≤ 4611686018427387904) (mL : L.length ≤ 4611686018427387904) (sL : ∀ f ∈ L, f.2.2.length ≤ 4611686018427387904) (mK : K.length ≤ 4611686018427387904) (sK : ∀ c ∈ K, c.xs.length ≤ 4611686018427387904) :
    Calls Tryz.prog 11 #[engV now aT T.length cT aO O.length cO aP P.length cP aL L.length cL aK K.length cK nx, engV now bT T.length dT bO O.length dO bP P.length dP bL L.length dL bK K.length dK nx] w fun e w' => e = .returned (.bool true) ∧ Below w.heap.size w w' := by
  have nb : Below w.heap.size w ((w.alloc (.cells #[.int .i64 now, .slice aT T.length cT, .slice aO O.length cO, .slice aP P.length cP, .slice aL L.length cL, .slice aK K.length cK, .int .i64 nx] 38)).alloc (.cells #[.int .i64 now, .slice bT T.length dT, .slice bO O.length dO, .slice bP P.length dP, .slice bL L.length dL, .slice bK K.length dK, .int .i64 nx] 38)) := by go_grown
  have L0 : Lay ((w.alloc (.cells #[.int .i64 now, .slice aT T.length cT, .slice aO O.length cO, .slice aP P.length cP, .slice aL L.length cL, .slice aK K.length cK, .int .i64 nx] 38)).alloc (.cells #[.int .i64 now, .slice bT T.length dT, .slice bO O.length dO, .slice bP P.length dP, .slice bL L.length dL, .slice bK K.length dK, .int .i64 nx] 38)) w.heap.size [.int .i64 now, .slice aT T.length cT, .slice aO O.length cO, .slice aP P.length cP, .slice aL L.length cL, .slice aK K.length cK, .int .i64 nx] := (lay_new [.int .i64 now, .slice aT T.length cT, .slice aO O.length cO, .slice aP P.length cP, .slice aL L.length cL, .slice aK K.length cK, .int .i64 nx] _ rfl).alloc _ _
  have L0' : Lay ((w.alloc (.cells #[.int .i64 now, .slice aT T.length cT, .slice aO O.length cO, .slice aP P.length cP, .slice aL L.length cL, .slice aK K.length cK, .int .i64 nx] 38)).alloc (.cells #[.int .i64 now, .slice bT T.length dT, .slice bO O.length dO, .slice bP P.length dP, .slice bL L.length dL, .slice bK K.length dK, .int .i64 nx] 38)) (w.heap.size + 1) [.int .i64 now, .slice bT T.length dT, .slice bO O.length dO, .slice bP P.length dP, .slice bL L.length dL, .slice bK K.length dK, .int .i64 nx] := lay_new [.int .i64 now, .slice bT T.length dT, .slice bO O.length dO, .slice bP P.length dP, .slice bL L.length dL, .slice bK K.length dK, .int .i64 nx] _ (by simp)
  go_enter Tryz.func11, Tryz.ntmps11
  go_wp2_with (first
    | (go_at_call 42; refine (eqLend_any cT cO cP dT dO dP (hT.here nb) (hO.here nb) (hP.here nb) (hT'.here nb) (hO'.here nb) (hP'.here nb) mT mO mP).mono ?_; rintro e w2 ⟨rfl, hb2⟩; rw [decide_eq_true (rfl : T = T), decide_eq_true (rfl : O = O), decide_eq_true (rfl : P = P)]; have hbx := below_two nb hb2; have M0 := L0.next hb2; have M0' := L0'.next hb2; have x4 : w2.cell? ⟨w.heap.size, 4, none⟩ = some (.slice aL L.length cL) := M0.cell 4 _ rfl; have x4' : w2.cell? ⟨w.heap.size + 1, 4, none⟩ = some (.slice bL L.length dL) := M0'.cell 4 _ rfl)
    | (go_at_call 43; refine (eqPlaceS_any cL dL (hL.here hbx) (hL'.here hbx) mL sL).mono ?_; rintro e w3 ⟨rfl, hb3⟩; rw [decide_eq_true rfl]; have hby := below_two hbx hb3; have M1 := M0.next hb3; have M1' := M0'.next hb3; have y5 : w3.cell? ⟨w.heap.size, 5, none⟩ = some (.slice aK K.length cK) := M1.cell 5 _ rfl; have y5' : w3.cell? ⟨w.heap.size + 1, 5, none⟩ = some (.slice bK K.length dK) := M1'.cell 5 _ rfl)
    | (go_at_call 44; refine (eqConnS_same cK dK (hK.here hby) (hK'.here hby) mK sK).mono ?_; rintro e w4 ⟨rfl, hb4⟩; have hbz := below_two hby hb4; have M2 := M1.next hb4; have M2' := M1'.next hb4; have z6 : w4.cell? ⟨w.heap.size, 6, none⟩ = some (.int .i64 nx) := M2.cell 6 _ rfl; have z6' : w4.cell? ⟨w.heap.size + 1, 6, none⟩ = some (.int .i64 nx) := M2'.cell 6 _ rfl))
  go_ret
  exact ⟨rfl, hbz⟩
end Go.Proofs.YtkohlmloobojfaaGreat
