/- Engines that come in as an argument: what can be read of them. -/
import Derived.Test.YtibfclfidaofkasGrpW
import Derived.Test.YtibfclfidaofkasGrpV
import Derived.Test.YtibfclfidaofkasGrpX
import Derived.Test.YtibfclfidaofkasGrpL
namespace Go.Proofs.Ytibfclfidaofkas
open Go.ChangeShapes Go.WideShapes Go.ChangeAt Go.RowKit
set_option maxRecDepth 100000
set_option linter.unusedVariables false
set_option linter.unusedSimpArgs false

theorem list14 {α : Type} {cs : List α} (h : cs.length = 14) : ∃ u0 u1 u2 u3 u4 u5 u6 u7 u8 u9 u10 u11 u12 u13, cs = [u0, u1, u2, u3, u4, u5, u6, u7, u8, u9, u10, u11, u12, u13] := by
  match cs, h with
  | [u0, u1, u2, u3, u4, u5, u6, u7, u8, u9, u10, u11, u12, u13], _ => exact ⟨u0, u1, u2, u3, u4, u5, u6, u7, u8, u9, u10, u11, u12, u13, rfl⟩
theorem list5 {α : Type} {cs : List α} (h : cs.length = 5) : ∃ u0 u1 u2 u3 u4, cs = [u0, u1, u2, u3, u4] := by
  match cs, h with
  | [u0, u1, u2, u3, u4], _ => exact ⟨u0, u1, u2, u3, u4, rfl⟩
section
variable {H : Type} {enc : TypeId × Value → H} {P : Program} {w : World} {sp : Nat → Bool} {held : Bool}
theorem open_conn {e i s c b : TypeId} {f0 f1 f2 f3 f4 : Field} {g0 g1 g2 g3 g4 g5 g6 g7 g8 g9 : Field} (he : P.underlying e = some (.struct #[f0, f1, f2, f3, f4])) (hc : P.underlying c = some (.struct #[g0, g1, g2, g3, g4, g5, g6, g7, g8, g9])) (hi : P.underlying i = some (.int .i64)) (hb : P.underlying b = some .bool) (hs : P.underlying s = some (.slice i)) (t0 : f0.type = i) (o0 : f0.offset = 0) (t1 : f1.type = i) (o1 : f1.offset = 1) (t2 : f2.type = i) (o2 : f2.offset = 2) (t3 : f3.type = c) (o3 : f3.offset = 3) (t4 : f4.type = s) (o4 : f4.offset = 13) (tg0 : g0.type = i) (og0 : g0.offset = 0) (tg1 : g1.type = i) (og1 : g1.offset = 1) (tg2 : g2.type = i) (og2 : g2.offset = 2) (tg3 : g3.type = i) (og3 : g3.offset = 3) (tg4 : g4.type = i) (og4 : g4.offset = 4) (tg5 : g5.type = i) (og5 : g5.offset = 5) (tg6 : g6.type = i) (og6 : g6.offset = 6) (tg7 : g7.type = i) (og7 : g7.offset = 7) (tg8 : g8.type = i) (og8 : g8.offset = 8) (tg9 : g9.type = b) (og9 : g9.offset = 9)
    (ci : P.cellsOf i = 1) (cb : P.cellsOf b = 1) (cc : P.cellsOf c = 10) (cs' : P.cellsOf s = 1) (ce : P.cellsOf e = 14) {fuel : Nat} {cs : List Value} {x : DataW H × List MemPlace}
    (h : DataW.trod enc P w 0 sp held fuel e cs = some x) : ∃ (k : Kn) (sa : Option Addr) (sc : Nat), cs = k.cs ++ [.slice sa k.xs.length sc] ∧ ISmp w.heap.size w sa k.xs ∧ k.xs.length ≤ maxLen := by
  obtain ⟨ys, n, _, rfl, hl, hlen, hf⟩ := DataW.trod_struct he h
  rw [ce] at hl
  obtain ⟨u0, u1, u2, u3, u4, u5, u6, u7, u8, u9, u10, u11, u12, u13, rfl⟩ := list14 hl
  obtain ⟨y0, y1, y2, y3, y4, rfl⟩ := list5 (show ys.length = 5 from hlen)
  have h0 := hf 0 f0 rfl
  change _ = some y0 at h0
  rw [o0, t0, ci] at h0
  have h1 := hf 1 f1 rfl
  change _ = some y1 at h1
  rw [o1, t1, ci] at h1
  have h2 := hf 2 f2 rfl
  change _ = some y2 at h2
  rw [o2, t2, ci] at h2
  have h3 := hf 3 f3 rfl
  change _ = some y3 at h3
  rw [o3, t3, cc] at h3
  have h4 := hf 4 f4 rfl
  change _ = some y4 at h4
  rw [o4, t4, cs'] at h4
  obtain ⟨p0, e0, _⟩ := DataW.trod_int hi h0
  obtain ⟨p1, e1, _⟩ := DataW.trod_int hi h1
  obtain ⟨p2, e2, _⟩ := DataW.trod_int hi h2
  obtain ⟨k, wn, th, fl, ac, la, og, st, fr, sl, e3, _⟩ := open_ints9b hc hi hb tg0 og0 tg1 og1 tg2 og2 tg3 og3 tg4 og4 tg5 og5 tg6 og6 tg7 og7 tg8 og8 tg9 og9 ci cb cc h3
  have h4' : DataW.trod enc P w 0 sp held n s [u13] = some y4 := h4
  obtain ⟨sa, sc, xs, e4, k1, k2⟩ := open_numbers hs hi ci h4'
  simp only [List.drop_zero, List.take_succ_cons, List.take_zero, List.drop_succ_cons, List.cons.injEq, and_true] at e0 e1 e2 e3
  obtain ⟨q0, q1, q2, q3, q4, q5, q6, q7, q8, q9⟩ := e3
  subst e0 e1 e2 e4
  subst q0 q1 q2 q3 q4 q5 q6 q7 q8 q9
  exact ⟨⟨p0, p1, p2, k, wn, th, fl, ac, la, og, st, fr, sl, xs⟩, sa, sc, rfl, k1, k2⟩
theorem open_conns {t e i s c b : TypeId} {f0 f1 f2 f3 f4 : Field} {g0 g1 g2 g3 g4 g5 g6 g7 g8 g9 : Field} (ht : P.underlying t = some (.slice e)) (he : P.underlying e = some (.struct #[f0, f1, f2, f3, f4])) (hc : P.underlying c = some (.struct #[g0, g1, g2, g3, g4, g5, g6, g7, g8, g9])) (hi : P.underlying i = some (.int .i64)) (hb : P.underlying b = some .bool) (hs : P.underlying s = some (.slice i)) (t0 : f0.type = i) (o0 : f0.offset = 0) (t1 : f1.type = i) (o1 : f1.offset = 1) (t2 : f2.type = i) (o2 : f2.offset = 2) (t3 : f3.type = c) (o3 : f3.offset = 3) (t4 : f4.type = s) (o4 : f4.offset = 13) (tg0 : g0.type = i) (og0 : g0.offset = 0) (tg1 : g1.type = i) (og1 : g1.offset = 1) (tg2 : g2.type = i) (og2 : g2.offset = 2) (tg3 : g3.type = i) (og3 : g3.offset = 3) (tg4 : g4.type = i) (og4 : g4.offset = 4) (tg5 : g5.type = i) (og5 : g5.offset = 5) (tg6 : g6.type = i) (og6 : g6.offset = 6) (tg7 : g7.type = i) (og7 : g7.offset = 7) (tg8 : g8.type = i) (og8 : g8.offset = 8) (tg9 : g9.type = b) (og9 : g9.offset = 9)
    (ci : P.cellsOf i = 1) (cb : P.cellsOf b = 1) (cc : P.cellsOf c = 10) (cs' : P.cellsOf s = 1) (ce : P.cellsOf e = 14) {fuel : Nat} {v : Value} {x : DataW H × List MemPlace}
    (h : DataW.trod enc P w 0 sp held fuel t [v] = some x) :
    ∃ (a : Option Addr) (cap : Nat) (ks : List Kn), v = .slice a ks.length cap ∧ Kls w.heap.size w a ks ∧ ks.length ≤ maxLen ∧ ∀ k ∈ ks, k.xs.length ≤ maxLen := by
  rcases DataW.trod_slice ht h with ⟨e1, _⟩ | ⟨a, len, cap, elems, rest, n, _, e1, _, _, hl, hm, hlen, hel, _, _⟩
  · obtain rfl : v = .slice none 0 0 := by simpa using e1
    exact ⟨none, 0, [], rfl, Kls.nil _ _ _, (by unfold maxLen; simp), fun f hf => by cases hf⟩
  · obtain rfl : v = .slice (some a) len cap := by simpa using e1
    have one : ∀ j, j < len → ∃ k : Kn, (∃ sa sc, (∀ m u, (k.cs ++ [.slice sa k.xs.length sc])[m]? = some u → w.cell? ((a.add (j * 14)).add m) = some u) ∧ ISmp w.heap.size w sa k.xs) ∧ k.xs.length ≤ maxLen := by
      intro j hj
      obtain ⟨y, hy⟩ : ∃ y, elems[j]? = some y := ⟨_, List.getElem?_eq_getElem (by omega)⟩
      have hbd := hel j hj
      rw [hy, ce, Option.bind_eq_some_iff] at hbd
      obtain ⟨cs, hcs, htr⟩ := hbd
      obtain ⟨k, sa, sc, e, k1, k2⟩ := open_conn he hc hi hb hs t0 o0 t1 o1 t2 o2 t3 o3 t4 o4 tg0 og0 tg1 og1 tg2 og2 tg3 og3 tg4 og4 tg5 og5 tg6 og6 tg7 og7 tg8 og8 tg9 og9 ci cb cc cs' ce htr
      obtain ⟨_, _, hcell⟩ := World.cells?_some hcs
      subst e
      exact ⟨k, ⟨sa, sc, fun m u hu => by
        obtain ⟨hm', e⟩ := List.getElem?_eq_some_iff.1 hu
        have := hcell m hm'
        rw [hu] at this
        exact this, k1⟩, k2⟩
    obtain ⟨ks, hx1, hx2⟩ := pick_list one
    refine ⟨some a, cap, ks, by rw [hx1], fun i hi' => ?_, by omega, fun f hf => ?_⟩
    · obtain ⟨⟨sa, sc, c0, hsm⟩, _⟩ := hx2 i hi'
      have hspot : a.spot = none := by
        obtain ⟨k0, ⟨_, _, c0', _⟩, _⟩ := one 0 (by omega)
        have := c0' 0 (.int .i64 k0.id) rfl
        simpa [Addr.add] using World.cell?_spot this
      obtain ⟨b', off, spot⟩ := a
      simp only at hspot
      subst hspot
      have e2 : ((⟨b', off, none⟩ : Addr).add (i * 14)) = ⟨b', off + i * 14, none⟩ := by unfold Addr.add; split <;> simp_all
      have e3 : ∀ m, ((⟨b', off + i * 14, none⟩ : Addr).add m) = ⟨b', off + i * 14 + m, none⟩ := fun m => by unfold Addr.add; split <;> simp_all
      have c1 : ∀ m u, (ks[i].cs ++ [.slice sa ks[i].xs.length sc])[m]? = some u → w.cell? ⟨b', off + i * 14 + m, none⟩ = some u := fun m u hu => by
        have := c0 m u hu
        rw [e2, e3] at this
        exact this
      have c13 := c1 13 (.slice sa ks[i].xs.length sc) rfl
      exact ⟨b', off, sa, sc, rfl, World.block_lt_of_cell? w _ c13, fun j u hu => c1 j u (by rw [List.getElem?_append_left (List.getElem?_eq_some_iff.1 hu).1]; exact hu), c13, hsm⟩
    · obtain ⟨i, hi', rfl⟩ := List.mem_iff_getElem.1 hf
      exact (hx2 i hi').2
end
theorem cellsE_engine : Try.prog.cellsOf 29 = 7 := by kernel_rfl
theorem cellsE_conn : Try.prog.cellsOf 95 = 14 := by kernel_rfl
theorem cellsE_connS : Try.prog.cellsOf 27 = 1 := by kernel_rfl
theorem cellsE_placeS : Try.prog.cellsOf 26 = 1 := by kernel_rfl
theorem cellsE_place : Try.prog.cellsOf 91 = 3 := by kernel_rfl
theorem cellsE_lend : Try.prog.cellsOf 25 = 3 := by kernel_rfl
theorem cellsE_cc : Try.prog.cellsOf 93 = 10 := by kernel_rfl
theorem cellsE_intS : Try.prog.cellsOf 62 = 1 := by kernel_rfl
theorem cellsE_i64 : Try.prog.cellsOf 2 = 1 := by kernel_rfl
theorem cellsE_bool : Try.prog.cellsOf 4 = 1 := by kernel_rfl
/-- The cells of an Engine. -/
abbrev engV (now : Int) (aT : Option Addr) (nT cT : Nat) (aO : Option Addr) (nO cO : Nat) (aP : Option Addr) (nP cP : Nat) (aL : Option Addr) (nL cL : Nat) (aK : Option Addr) (nK cK : Nat) (nx : Int) : Value := .agg #[.int .i64 now, .slice aT nT cT, .slice aO nO cO, .slice aP nP cP, .slice aL nL cL, .slice aK nK cK, .int .i64 nx]
theorem list7 {α : Type} {cs : List α} (h : cs.length = 7) : ∃ u0 u1 u2 u3 u4 u5 u6, cs = [u0, u1, u2, u3, u4, u5, u6] := by
  match cs, h with
  | [u0, u1, u2, u3, u4, u5, u6], _ => exact ⟨u0, u1, u2, u3, u4, u5, u6, rfl⟩
theorem open_engine {H : Type} {enc : TypeId × Value → H} {w : World} {sp : Nat → Bool} {held : Bool} {r : Reach} {b0 : Nat} {v : Value} {d : DataW H} {ps : List MemPlace}
    (hv : Value.okWide Try.prog w r b0 29 v) (h : DataW.Trod enc Try.prog w 0 sp held 29 v d ps) :
    ∃ (now : Int) (aT : Option Addr) (cT : Nat) (T : List Q4) (aO : Option Addr) (cO : Nat) (O : List Q4) (aP : Option Addr) (cP : Nat) (P : List Q4) (aL : Option Addr) (cL : Nat) (L : List F8) (aK : Option Addr) (cK : Nat) (K : List Kn) (nx : Int),
      v = engV now aT T.length cT aO O.length cO aP P.length cP aL L.length cL aK K.length cK nx ∧ I64 now ∧ Quad w.heap.size w aT T ∧ Quad w.heap.size w aO O ∧ Quad w.heap.size w aP P ∧ T.length ≤ maxLen ∧ O.length ≤ maxLen ∧ P.length ≤ maxLen ∧
      Fls w.heap.size w aL L ∧ L.length ≤ maxLen ∧ (∀ f ∈ L, f.2.2.length ≤ maxLen) ∧ Kls w.heap.size w aK K ∧ K.length ≤ maxLen ∧ (∀ k ∈ K, k.xs.length ≤ maxLen) ∧ I64 nx := by
  have hv' := hv
  unfold Value.okWide at hv'
  rw [Try.underlying29] at hv'
  obtain ⟨cs, rfl, hsz, _⟩ := hv'
  obtain ⟨n, hn⟩ := h
  have hn' : DataW.trod enc Try.prog w 0 sp held n 29 cs.toList = some (d, ps) := hn
  obtain ⟨ys, m, _, _, hl, hlen, hf⟩ := DataW.trod_struct Try.underlying29 hn'
  rw [cellsE_engine] at hl
  obtain ⟨u0, u1, u2, u3, u4, u5, u6, hcs⟩ := list7 hl
  obtain ⟨y0, y1, y2, y3, y4, rfl⟩ := list5 (show ys.length = 5 from hlen)
  rw [hcs] at hf
  have k0 : DataW.trod enc Try.prog w 0 sp held m 2 (List.take (Try.prog.cellsOf 2) (List.drop 0 [u0, u1, u2, u3, u4, u5, u6])) = some y0 := hf 0 _ rfl
  have k1 : DataW.trod enc Try.prog w 0 sp held m 25 (List.take (Try.prog.cellsOf 25) (List.drop 1 [u0, u1, u2, u3, u4, u5, u6])) = some y1 := hf 1 _ rfl
  have k2 : DataW.trod enc Try.prog w 0 sp held m 26 (List.take (Try.prog.cellsOf 26) (List.drop 4 [u0, u1, u2, u3, u4, u5, u6])) = some y2 := hf 2 _ rfl
  have k3 : DataW.trod enc Try.prog w 0 sp held m 27 (List.take (Try.prog.cellsOf 27) (List.drop 5 [u0, u1, u2, u3, u4, u5, u6])) = some y3 := hf 3 _ rfl
  have k4 : DataW.trod enc Try.prog w 0 sp held m 2 (List.take (Try.prog.cellsOf 2) (List.drop 6 [u0, u1, u2, u3, u4, u5, u6])) = some y4 := hf 4 _ rfl
  rw [cellsE_i64] at k0 k4
  rw [cellsE_lend] at k1
  rw [cellsE_placeS] at k2
  rw [cellsE_connS] at k3
  have k2' : DataW.trod enc Try.prog w 0 sp held m 26 [u4] = some y2 := k2
  have k3' : DataW.trod enc Try.prog w 0 sp held m 27 [u5] = some y3 := k3
  have k1' : DataW.trod enc Try.prog w 0 sp held m 25 [u1, u2, u3] = some y1 := k1
  obtain ⟨p, e0, _, w0⟩ := DataW.trod_int Try.underlying2 k0
  obtain ⟨q, e6, _, w6⟩ := DataW.trod_int Try.underlying2 k4
  obtain rfl : u0 = .int .i64 p := by simpa using e0
  obtain rfl : u6 = .int .i64 q := by simpa using e6
  obtain ⟨z0, z1, z2, m', _, hl3, h0, h1, h2⟩ := Go.Deep.trod_struct3 Try.underlying25 k1'
  have j0 : DataW.trod enc Try.prog w 0 sp held m' 22 (List.take (Try.prog.cellsOf 22) (List.drop 0 [u1, u2, u3])) = some z0 := h0
  have j1 : DataW.trod enc Try.prog w 0 sp held m' 23 (List.take (Try.prog.cellsOf 23) (List.drop 1 [u1, u2, u3])) = some z1 := h1
  have j2 : DataW.trod enc Try.prog w 0 sp held m' 23 (List.take (Try.prog.cellsOf 23) (List.drop 2 [u1, u2, u3])) = some z2 := h2
  rw [cells_clsS] at j0
  rw [cells_bktS] at j1 j2
  have j0' : DataW.trod enc Try.prog w 0 sp held m' 22 [u1] = some z0 := j0
  have j1' : DataW.trod enc Try.prog w 0 sp held m' 23 [u2] = some z1 := j1
  have j2' : DataW.trod enc Try.prog w 0 sp held m' 23 [u3] = some z2 := j2
  obtain ⟨aT, cT, T, rfl, qT, _, _, lT, mT⟩ := open_quads Try.underlying22 Try.underlying83 Try.underlying2 rfl rfl rfl rfl rfl rfl rfl rfl cellsQ_i_class cellsQ_class j0'
  obtain ⟨aO, cO, O, rfl, qO, _, _, lO, mO⟩ := open_quads Try.underlying23 Try.underlying121 Try.underlying2 rfl rfl rfl rfl rfl rfl rfl rfl cellsQ_i_bucket cellsQ_bucket j1'
  obtain ⟨aP, cP, P, rfl, qP, _, _, lP, mP⟩ := open_quads Try.underlying23 Try.underlying121 Try.underlying2 rfl rfl rfl rfl rfl rfl rfl rfl cellsQ_i_bucket cellsQ_bucket j2'
  obtain ⟨aL, cL, L, rfl, hL, mL, sL⟩ := open_flows Try.underlying26 Try.underlying91 Try.underlying2 Try.underlying62 rfl rfl rfl rfl rfl rfl cellsE_i64 cellsE_intS cellsE_place k2'
  obtain ⟨aK, cK, K, rfl, hK, mK, sK⟩ := open_conns Try.underlying27 Try.underlying95 Try.underlying93 Try.underlying2 Try.underlying4 Try.underlying62 rfl rfl rfl rfl rfl rfl rfl rfl rfl rfl rfl rfl rfl rfl rfl rfl rfl rfl rfl rfl rfl rfl rfl rfl rfl rfl rfl rfl rfl rfl cellsE_i64 cellsE_bool cellsE_cc cellsE_intS cellsE_conn k3'
  refine ⟨p, aT, cT, T, aO, cO, O, aP, cP, P, aL, cL, L, aK, cK, K, q, ?_, bounds_i64 w0, qT, qO, qP, by omega, by omega, by omega, hL, mL, sL, hK, mK, sK, bounds_i64 w6⟩
  congr 1
  exact Array.ext' hcs
end Go.Proofs.Ytibfclfidaofkas
