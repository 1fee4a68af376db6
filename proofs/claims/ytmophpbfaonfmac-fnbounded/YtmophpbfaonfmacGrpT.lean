/- Lemmas on the way, of several texts: Draw7d, Draw7e, Draw7f. -/
import Derived.Test.YtmophpbfaonfmacGrpS
import Derived.Test.YtmophpbfaonfmacGrpP
namespace Go.Proofs.Ytmophpbfaonfmac
open Go.ChangeShapes Go.WideShapes Go.ChangeAt Go.RowKit
set_option maxRecDepth 100000
set_option linter.unusedVariables false
set_option linter.unusedSimpArgs false

set_option maxHeartbeats 1000000 in
theorem drawNow_acc {B : Nat} {a0 : Option Addr} {len cap b : Nat} {w0 w : World} (at' : Int) (c : Cur B a0 len cap b w) (o : Only b w0 w) :
    Calls Try.prog 52 #[.pointer (some ⟨b, 0, none⟩), .int .i64 at'] w fun e w' => ∃ x : Int, e = .returned (.int .i64 x) ∧ Cur B a0 len cap b w' ∧ Only b w0 w' := by
  go_enter Try.func52, Try.ntmps52
  go_wp2_with (first
    | (go_at_call 69; refine (once_acc _ c o (by omega) (by omega)).mono ?_; rintro e w2 ⟨f, rfl, c2, o2⟩; cases f)
    | (go_at_call 81; refine (drawTime_acc c2 o2).mono ?_; rintro e w3 ⟨x3, rfl, _, c3, o3⟩)
    | (go_at_call 68; have gq := c3; refine (below_acc _ c3 o3 (by omega) (by omega)).mono ?_; rintro e w4 ⟨x4, rfl, hx4, c4, o4⟩)
    | (go_at_call 68; refine (below_acc _ c2 o2 (by omega) (by omega)).mono ?_; rintro e w3 ⟨x3, rfl, hx3, c3, o3⟩))
  all_goals go_ret
  all_goals first | exact ⟨_, rfl, c4, o4⟩ | exact ⟨_, rfl, c3, o3⟩
end Go.Proofs.Ytmophpbfaonfmac
namespace Go.Proofs.Ytmophpbfaonfmac
open Go.ChangeShapes Go.WideShapes Go.ChangeAt Go.RowKit
set_option maxRecDepth 100000
set_option linter.unusedVariables false
set_option linter.unusedSimpArgs false

/-- A Lend in the variable bl while numbers are drawn: its lists lie in memory. -/
structure S7 (B : Nat) (a0 : Option Addr) (len cap b : Nat) (w wr : World) (bl : Nat) (a1 : Option Addr) (c1 : Nat) (a2 : Option Addr) (c2 : Nat) (a3 : Option Addr) (c3 : Nat) (T O P : List Q4) : Prop where
  cur : Cur B a0 len cap b wr
  only : Only b w wr
  lt : b < w.heap.size
  bl0 : w.heap.size ≤ bl
  bl1 : bl < wr.heap.size
  c0 : wr.cell? ⟨bl, 0, none⟩ = some (.slice a1 T.length c1)
  c1' : wr.cell? ⟨bl, 1, none⟩ = some (.slice a2 O.length c2)
  c2' : wr.cell? ⟨bl, 2, none⟩ = some (.slice a3 P.length c3)
  q1 : QR w.heap.size wr a1 T
  q2 : QR w.heap.size wr a2 O
  q3 : QR w.heap.size wr a3 P
section
variable {B : Nat} {a0 : Option Addr} {len cap b : Nat} {w wr : World} {bl : Nat} {a1 : Option Addr} {c1 : Nat} {a2 : Option Addr} {c2 : Nat} {a3 : Option Addr} {c3 : Nat} {T O P : List Q4}
theorem S7.draw (d : S7 B a0 len cap b w wr bl a1 c1 a2 c2 a3 c3 T O P) {w2 : World} (o : Only b wr w2) (k : Cur B a0 len cap b w2) : S7 B a0 len cap b w w2 bl a1 c1 a2 c2 a3 c3 T O P := by
  have h0 := d.lt
  have h1 := d.bl0
  have hn : bl ≠ b := by omega
  exact ⟨k, d.only.trans o, d.lt, d.bl0, Nat.lt_of_lt_of_le d.bl1 o.size, (o.cell (p := ⟨bl, 0, none⟩) d.bl1 hn).trans d.c0, (o.cell (p := ⟨bl, 1, none⟩) d.bl1 hn).trans d.c1', (o.cell (p := ⟨bl, 2, none⟩) d.bl1 hn).trans d.c2', d.q1.only o h0, d.q2.only o h0, d.q3.only o h0⟩
theorem S7.next (d : S7 B a0 len cap b w wr bl a1 c1 a2 c2 a3 c3 T O P) {w2 : World} (h : Below wr.heap.size wr w2) : S7 B a0 len cap b w w2 bl a1 c1 a2 c2 a3 c3 T O P := d.draw (Only.of_below h) (d.cur.mono h)
theorem S7.new (k : Cur B a0 len cap b wr) (o : Only b w wr) (hb : b < w.heap.size) (q1 : QR w.heap.size wr a1 T) (q2 : QR w.heap.size wr a2 O) (q3 : QR w.heap.size wr a3 P) : S7 B a0 len cap b w (wr.alloc (.cells #[.slice a1 T.length c1, .slice a2 O.length c2, .slice a3 P.length c3] 64)) wr.heap.size a1 c1 a2 c2 a3 c3 T O P := by
  have nb : Below wr.heap.size wr (wr.alloc (.cells #[.slice a1 T.length c1, .slice a2 O.length c2, .slice a3 P.length c3] 64)) := new_below _ _
  have on : Only b wr (wr.alloc (.cells #[.slice a1 T.length c1, .slice a2 O.length c2, .slice a3 P.length c3] 64)) := Only.of_below nb
  exact ⟨k.mono nb, o.alloc _, hb, o.size, by simp, by go_simp, by go_simp, by go_simp, q1.only on hb, q2.only on hb, q3.only on hb⟩
end
theorem iv_n {w : World} {lo n c : Nat} {a : Option Addr} {xs : List Int} (h : IV w lo (.slice a n c) xs) : n = xs.length := by
  obtain ⟨_, _, e, _⟩ := h.smp
  injection e
section
variable {P : Program}
theorem results_four {fn : Func} {p u1 u2 u3 : Tmp} {ty : TypeId} (h : fn.results = #[.cell p ty, .tmp u1, .tmp u2, .tmp u3]) (tmps : Array Value) (w : World) (g : Nat) (cs : List Value) {d : TypeDesc}
    (hp : tmps.getD p undef = .pointer (some ⟨g, 0, none⟩)) (hc : ∀ j v, cs[j]? = some v → w.cell? ⟨g, j, none⟩ = some v)
    (hu : P.underlying ty = some d) (hd : (match d with | .struct _ | .array _ _ => true | _ => false) = true) (hi : (P.info? ty).map (·.size) = some cs.length) :
    (results fn tmps).run P w = .ok (.tuple #[.agg cs.toArray, tmps.getD u1 undef, tmps.getD u2 undef, tmps.getD u3 undef]) w := by
  have hp' : tmps[p]?.getD undef = .pointer (some ⟨g, 0, none⟩) := by simpa using hp
  have hl := loadVar_cells (P := P) w g 0 ty cs (fun j v hv => by rw [Nat.zero_add]; exact hc j v hv) hu hd hi
  simp [results, h, hp', asAddr, hl, Sem.run_bind, Result.andThen]
end
theorem s7_out {B : Nat} {a0 : Option Addr} {len cap b : Nat} {w0 w wr : World} {bl : Nat} {a1 : Option Addr} {c1 : Nat} {a2 : Option Addr} {c2 : Nat} {a3 : Option Addr} {c3 : Nat} {T O P : List Q4} (d : S7 B a0 len cap b w wr bl a1 c1 a2 c2 a3 c3 T O P) (ow : Only b w0 w) (zw : w.heap.size = w0.heap.size + 1) (hlt : b < w0.heap.size) :
    Cur B a0 len cap b (((wr.setCell ⟨w0.heap.size, 0, none⟩ (.slice a1 T.length c1)).setCell ⟨w0.heap.size, 1, none⟩ (.slice a2 O.length c2)).setCell ⟨w0.heap.size, 2, none⟩ (.slice a3 P.length c3)) ∧ Only b w0 (((wr.setCell ⟨w0.heap.size, 0, none⟩ (.slice a1 T.length c1)).setCell ⟨w0.heap.size, 1, none⟩ (.slice a2 O.length c2)).setCell ⟨w0.heap.size, 2, none⟩ (.slice a3 P.length c3)) ∧ QR w0.heap.size (((wr.setCell ⟨w0.heap.size, 0, none⟩ (.slice a1 T.length c1)).setCell ⟨w0.heap.size, 1, none⟩ (.slice a2 O.length c2)).setCell ⟨w0.heap.size, 2, none⟩ (.slice a3 P.length c3)) a1 T ∧ QR w0.heap.size (((wr.setCell ⟨w0.heap.size, 0, none⟩ (.slice a1 T.length c1)).setCell ⟨w0.heap.size, 1, none⟩ (.slice a2 O.length c2)).setCell ⟨w0.heap.size, 2, none⟩ (.slice a3 P.length c3)) a2 O ∧ QR w0.heap.size (((wr.setCell ⟨w0.heap.size, 0, none⟩ (.slice a1 T.length c1)).setCell ⟨w0.heap.size, 1, none⟩ (.slice a2 O.length c2)).setCell ⟨w0.heap.size, 2, none⟩ (.slice a3 P.length c3)) a3 P ∧ ((((wr.setCell ⟨w0.heap.size, 0, none⟩ (.slice a1 T.length c1)).setCell ⟨w0.heap.size, 1, none⟩ (.slice a2 O.length c2)).setCell ⟨w0.heap.size, 2, none⟩ (.slice a3 P.length c3)).cell? ⟨bl, 0, none⟩ = some (.slice a1 T.length c1) ∧ (((wr.setCell ⟨w0.heap.size, 0, none⟩ (.slice a1 T.length c1)).setCell ⟨w0.heap.size, 1, none⟩ (.slice a2 O.length c2)).setCell ⟨w0.heap.size, 2, none⟩ (.slice a3 P.length c3)).cell? ⟨bl, 1, none⟩ = some (.slice a2 O.length c2) ∧ (((wr.setCell ⟨w0.heap.size, 0, none⟩ (.slice a1 T.length c1)).setCell ⟨w0.heap.size, 1, none⟩ (.slice a2 O.length c2)).setCell ⟨w0.heap.size, 2, none⟩ (.slice a3 P.length c3)).cell? ⟨bl, 2, none⟩ = some (.slice a3 P.length c3)) := by
  have hs := d.only.size
  have h0 := d.bl0
  have hB : Below w0.heap.size wr (((wr.setCell ⟨w0.heap.size, 0, none⟩ (.slice a1 T.length c1)).setCell ⟨w0.heap.size, 1, none⟩ (.slice a2 O.length c2)).setCell ⟨w0.heap.size, 2, none⟩ (.slice a3 P.length c3)) := set3_below (Nat.le_refl _) (by omega) _ _ _
  have hO : Only w0.heap.size wr (((wr.setCell ⟨w0.heap.size, 0, none⟩ (.slice a1 T.length c1)).setCell ⟨w0.heap.size, 1, none⟩ (.slice a2 O.length c2)).setCell ⟨w0.heap.size, 2, none⟩ (.slice a3 P.length c3)) := (((Only.refl w0.heap.size wr).setCell (p := ⟨w0.heap.size, 0, none⟩) rfl _).setCell (p := ⟨w0.heap.size, 1, none⟩) rfl _).setCell (p := ⟨w0.heap.size, 2, none⟩) rfl _
  have hn : bl ≠ w0.heap.size := by omega
  exact ⟨d.cur.under hB hlt, only_low (ow.trans d.only) hB, (d.q1.only hO (by omega)).lower (by omega), (d.q2.only hO (by omega)).lower (by omega), (d.q3.only hO (by omega)).lower (by omega), (hO.cell (p := ⟨bl, 0, none⟩) d.bl1 hn).trans d.c0, (hO.cell (p := ⟨bl, 1, none⟩) d.bl1 hn).trans d.c1', (hO.cell (p := ⟨bl, 2, none⟩) d.bl1 hn).trans d.c2'⟩
/-- A Lend and three numbers, drawn. -/
def K7Post (B : Nat) (a0 : Option Addr) (len cap b : Nat) (w : World) (e : Ending) (w' : World) : Prop := ∃ a1 c1 a2 c2 a3 c3 T O P leaf now n, e = .returned (.tuple #[lendV a1 (List.length T) c1 a2 (List.length O) c2 a3 (List.length P) c3, .int .i64 leaf, .int .i64 now, .int .i64 n]) ∧ (Cur B a0 len cap b w' ∧ Only b w w') ∧ (QR w.heap.size w' a1 T ∧ QR w.heap.size w' a2 O ∧ QR w.heap.size w' a3 P) ∧ (T.length ≤ 30 ∧ O.length ≤ 30 ∧ P.length ≤ 30 ∧ 1 ≤ T.length)
set_option maxHeartbeats 8000000 in
theorem l7DrawAsk_acc {B : Nat} {a0 : Option Addr} {len cap b : Nat} {w0 : World} (k : Cur B a0 len cap b w0) :
    Calls Try.prog 122 #[.pointer (some ⟨b, 0, none⟩)] w0 (K7Post B a0 len cap b w0) := by
  have hlt := k.hi
  obtain ⟨w, hw, kw, ow, zw, r0, r1, r2, rf⟩ : ∃ w, w0.alloc (.cells #[.slice none 0 0, .slice none 0 0, .slice none 0 0] 64) = w ∧ Cur B a0 len cap b w ∧ Only b w0 w ∧ w.heap.size = w0.heap.size + 1 ∧ w.cell? ⟨w0.heap.size, 0, none⟩ = some (.slice none 0 0) ∧ w.cell? ⟨w0.heap.size, 1, none⟩ = some (.slice none 0 0) ∧ w.cell? ⟨w0.heap.size, 2, none⟩ = some (.slice none 0 0) ∧ ∀ i, w.frozen? ⟨w0.heap.size, i, none⟩ = false :=
    ⟨_, rfl, k.alloc _, (Only.refl _ _).alloc _, by simp, by go_simp, by go_simp, by go_simp, fun i => by go_simp⟩
  go_enter Try.func122, Try.ntmps122
  go_upto_region 1 with (fail)
  clear hw
  have hbw : b < w.heap.size := kw.hi
  go_upto_region 2 with (first
    | (go_at_call 141; refine (l7DrawAny_acc kw).mono ?_; rintro e wC ⟨a1, c1, a2, c2, a3, c3, T, O, P, rfl, ⟨kC, oC⟩, ⟨h1, h2, h3⟩, hl30⟩))
  have D0 : Hid (S7 B a0 len cap b w (wC.alloc (.cells #[.slice a1 T.length c1, .slice a2 O.length c2, .slice a3 P.length c3] 64)) wC.heap.size a1 c1 a2 c2 a3 c3 T O P) := S7.new kC oC hbw h1 h2 h3
  have HL : Hid (T.length ≤ 30 ∧ O.length ≤ 30 ∧ P.length ≤ 30 ∧ 1 ≤ T.length) := hl30
  have hT30 : (T.length : Int) ≤ 30 := by omega
  have hO30 : (O.length : Int) ≤ 30 := by omega
  clear kC oC h1 h2 h3 hl30
  obtain ⟨v, hv⟩ : ∃ v, wC.alloc (.cells #[.slice a1 T.length c1, .slice a2 O.length c2, .slice a3 P.length c3] 64) = v := ⟨_, rfl⟩
  obtain ⟨bl, hbl⟩ : ∃ bl, wC.heap.size = bl := ⟨_, rfl⟩
  rw [hv, hbl] at D0 ⊢
  clear hv hbl
  have y0 := D0.out.c0
  go_upto_region 3 with (first
    | (go_at_call 38; refine (specLeaves_any c1 D0.out.q1.1 (by omega)).mono ?_; rintro e w1 ⟨aV, nV, cV, rfl, ivV, hb1⟩))
  obtain ⟨V, hV⟩ : ∃ V, leavesOf T = V := ⟨_, rfl⟩
  have hv30 := leavesOf_length T
  rw [hV] at ivV hv30
  clear hV y0
  have D1 : Hid (S7 B a0 len cap b w w1 bl a1 c1 a2 c2 a3 c3 T O P) := D0.out.next hb1
  have hbv : b < v.heap.size := D0.out.cur.hi
  obtain ⟨lo, hlo⟩ : ∃ lo, v.heap.size = lo := ⟨_, rfl⟩
  rw [hlo] at ivV hbv
  clear D0 hb1 hlo
  go_upto_region 4 with (first
    | (go_at_call 68; refine (below_acc _ D1.out.cur (Only.refl _ _) (by omega) (by omega)).mono ?_; rintro e w2 ⟨x2, rfl, hx2, k2, o2⟩; have D2 : Hid (S7 B a0 len cap b w w2 bl a1 c1 a2 c2 a3 c3 T O P) := D1.out.draw o2 k2; have I2 : Hid (IV w2 lo (.slice aV nV cV) V) := ivV.only o2 hbv))
  clear D1 ivV k2 o2 hx2
  obtain rfl : nV = V.length := iv_n I2.out
  have hVi : (V.length : Int) ≤ 30 := by omega
  go_cut [24] from 17 to 23 (fun u wd => ∃ f, u = .bool f ∧ (f = true → 1 ≤ V.length) ∧ Hid (S7 B a0 len cap b w wd bl a1 c1 a2 c2 a3 c3 T O P) ∧ Hid (IV wd lo (.slice aV V.length cV) V))
  case first =>
    rcases Nat.eq_zero_or_pos V.length with h0 | h0
    · obtain rfl : V = [] := List.eq_nil_of_length_eq_zero h0
      clear h0
      go_wp2
      go_meet
      exact ⟨false, rfl, fun h => (by cases h), D2, I2⟩
    · have h0i : (0 : Int) < (V.length : Int) := by omega
      go_wp2_with (first
        | (go_at_call 69; refine (once_acc _ D2.out.cur (Only.refl _ _) (by omega) (by omega)).mono ?_; rintro e w3 ⟨f3, rfl, k3, o3⟩; have D3 : Hid (S7 B a0 len cap b w w3 bl a1 c1 a2 c2 a3 c3 T O P) := D2.out.draw o3 k3; have I3 : Hid (IV w3 lo (.slice aV V.length cV) V) := I2.out.only o3 hbv))
      go_meet
      exact ⟨_, rfl, fun _ => h0, D3, I3⟩
  case rest =>
    clear D2 I2
    obtain ⟨f, rfl, hf, D3, I3⟩ := hcut
    go_upto_if 24 with (fail)
    go_cut [8] from 25 to 31 (fun u wd => ∃ y, u = .int .i64 y ∧ Hid (S7 B a0 len cap b w wd bl a1 c1 a2 c2 a3 c3 T O P))
    case first =>
      cases f
      · go_wp2
        go_meet
        exact ⟨x2, rfl, D3⟩
      · have h1 := hf rfl
        obtain ⟨gV, rfl, _, _, _⟩ := iv_row I3.out h1
        have h1i : (1 : Int) ≤ (V.length : Int) := by omega
        clear hf
        go_wp2_with (first
          | (go_at_call 68; refine (below_acc _ D3.out.cur (Only.refl _ _) (by omega) (by omega)).mono ?_; rintro e w4 ⟨x4, rfl, hx4, k4, o4⟩; have D4 : Hid (S7 B a0 len cap b w w4 bl a1 c1 a2 c2 a3 c3 T O P) := D3.out.draw o4 k4; obtain ⟨X, rfl⟩ := Int.eq_ofNat_of_zero_le hx4.1; have hXi : (X : Int) < (V.length : Int) := (by omega); have hX : X < V.length := (by omega); have hcell := iv_cell (I3.out.only o4 hbv) X hX))
        go_meet
        exact ⟨_, rfl, D4⟩
    case rest =>
      clear D3 I3 hf
      obtain ⟨leaf, rfl, D5⟩ := hcut
      go_upto_region 7 with (first
        | (go_at_call 68; refine (below_acc _ D5.out.cur (Only.refl _ _) (by omega) (by omega)).mono ?_; rintro e w6 ⟨x6, rfl, hx6, k6, o6⟩; have D6 : Hid (S7 B a0 len cap b w w6 bl a1 c1 a2 c2 a3 c3 T O P) := D5.out.draw o6 k6))
      clear D5 k6 o6 hx6
      have y1 := D6.out.c1'
      go_upto_if 37 with (fail)
      go_cut [9] from 37 to 44 (fun u wd => ∃ y, u = .int .i64 y ∧ Hid (S7 B a0 len cap b w wd bl a1 c1 a2 c2 a3 c3 T O P))
      case first =>
        rcases Nat.eq_zero_or_pos O.length with h0 | h0
        · obtain rfl : O = [] := List.eq_nil_of_length_eq_zero h0
          clear h0
          go_wp2
          go_meet
          exact ⟨x6, rfl, D6⟩
        · have h0i : (0 : Int) < (O.length : Int) := by omega
          obtain ⟨gO, oO, rfl, hgO, _, _, _, hc3⟩ := D6.out.q2.1 0 h0
          simp only [Nat.zero_mul, Nat.add_zero] at hc3
          obtain ⟨t, ht⟩ : ∃ t, O[0].2.2.2 = t := ⟨_, rfl⟩
          rw [ht] at hc3
          clear ht
          go_wp2_with (first
            | (go_at_call 52; refine (drawNow_acc _ D6.out.cur (Only.refl _ _)).mono ?_; rintro e w7 ⟨x7, rfl, k7, o7⟩; have D7 : Hid (S7 B a0 len cap b w w7 bl a1 c1 (some ⟨gO, oO, none⟩) c2 a3 c3 T O P) := D6.out.draw o7 k7))
          go_meet
          exact ⟨x7, rfl, D7⟩
      case rest =>
        clear D6 y1
        obtain ⟨now, rfl, D8⟩ := hcut
        go_upto_region 9 with (fail)
        have hbr : w0.heap.size < wc.heap.size := by have := D8.out.only.size; omega
        have e0 := D8.out.c0
        have e1 := D8.out.c1'
        have e2 := D8.out.c2'
        go_region_held3 (fun w' => w'.cell? ⟨bl, 0, none⟩ = some (.slice a1 T.length c1) ∧ w'.cell? ⟨bl, 1, none⟩ = some (.slice a2 O.length c2) ∧ w'.cell? ⟨bl, 2, none⟩ = some (.slice a3 P.length c3)) (first | (refine H9.out; done) | go_keep | (exact HST.out))
          (first
            | (go_at_call 142; refine (drawSize_acc (D8.out.next (by go_grown)).cur (Only.refl _ _)).mono ?_; rintro e w9 ⟨x9, rfl, k9, o9⟩; have D9 : Hid (S7 B a0 len cap b w w9 bl a1 c1 a2 c2 a3 c3 T O P) := (D8.out.next (by go_grown)).draw o9 k9; have H9 : Hid (w9.cell? ⟨bl, 0, none⟩ = some (.slice a1 T.length c1) ∧ w9.cell? ⟨bl, 1, none⟩ = some (.slice a2 O.length c2) ∧ w9.cell? ⟨bl, 2, none⟩ = some (.slice a3 P.length c3)) := ⟨D9.out.c0, D9.out.c1', D9.out.c2'⟩; have q0 := (D9.out.only.cell (p := ⟨w0.heap.size, 0, none⟩) (by simp only; omega) (by simp only; omega)).trans r0; have q1 := (D9.out.only.cell (p := ⟨w0.heap.size, 1, none⟩) (by simp only; omega) (by simp only; omega)).trans r1; have q2 := (D9.out.only.cell (p := ⟨w0.heap.size, 2, none⟩) (by simp only; omega) (by simp only; omega)).trans r2; have qf := fun i => (D9.out.only.frozen (p := ⟨w0.heap.size, i, none⟩) (by simp only; omega) (by simp only; omega)).trans (rf i); have HX := s7_out D9.out ow zw hlt; have HST : Hid _ := HX.2.2.2.2.2; have HX' : Hid _ := HX; clear HX))
        go_wp2
        refine bodyPost_ret (results_four rfl _ _ _ [.slice a1 T.length c1, .slice a2 O.length c2, .slice a3 P.length c3] rfl (set_three (u0 := .slice none 0 0) (u1 := .slice none 0 0) (u2 := .slice none 0 0) _ _ _ q0 q1 q2) Try.underlying64 rfl (by kernel_rfl)) rfl ?_
        exact ⟨a1, c1, a2, c2, a3, c3, T, O, P, leaf, now, x9, rfl, ⟨HX'.out.1, HX'.out.2.1⟩, ⟨HX'.out.2.2.1, HX'.out.2.2.2.1, HX'.out.2.2.2.2.1⟩, HL.out⟩
end Go.Proofs.Ytmophpbfaonfmac
namespace Go.Proofs.Ytmophpbfaonfmac
open Go.ChangeShapes Go.WideShapes Go.ChangeAt Go.RowKit
set_option maxRecDepth 100000
set_option linter.unusedVariables false
set_option linter.unusedSimpArgs false

/-- A Lend and three numbers, drawn: its lists lie in memory. -/
def DAPost (w : World) (e : Ending) (w' : World) : Prop := ∃ a1 c1 a2 c2 a3 c3 T O P leaf now n, e = .returned (.tuple #[lendV a1 (List.length T) c1 a2 (List.length O) c2 a3 (List.length P) c3, .int .i64 leaf, .int .i64 now, .int .i64 n]) ∧ (Quad w'.heap.size w' a1 T ∧ Quad w'.heap.size w' a2 O ∧ Quad w'.heap.size w' a3 P) ∧ (T.length ≤ 30 ∧ O.length ≤ 30 ∧ P.length ≤ 30) ∧ Below w.heap.size w w'
set_option maxHeartbeats 2000000 in
theorem drawAsk_any {B : Nat} {a0 : Option Addr} {len : Nat} (cap : Nat) {w0 : World} (hs : len ≤ 4096) (row : Row B a0 len w0) (hB : B ≤ w0.heap.size) :
    Calls Try.prog 94 #[.slice a0 len cap] w0 (DAPost w0) := by
  obtain ⟨w, hw, rw', ow, zw, r0, r1, r2, rf⟩ : ∃ w, w0.alloc (.cells #[.slice none 0 0, .slice none 0 0, .slice none 0 0] 64) = w ∧ Row B a0 len w ∧ Below w0.heap.size w0 w ∧ w.heap.size = w0.heap.size + 1 ∧ w.cell? ⟨w0.heap.size, 0, none⟩ = some (.slice none 0 0) ∧ w.cell? ⟨w0.heap.size, 1, none⟩ = some (.slice none 0 0) ∧ w.cell? ⟨w0.heap.size, 2, none⟩ = some (.slice none 0 0) ∧ ∀ i, w.frozen? ⟨w0.heap.size, i, none⟩ = false :=
    ⟨_, rfl, row.mono ((Below.refl B w0).alloc hB _), new_below _ _, by simp, by go_simp, by go_simp, by go_simp, fun i => by go_simp⟩
  go_enter Try.func94, Try.ntmps94
  go_upto_region 1 with (fail)
  clear hw
  go_wp2_with (first
    | (go_at_call 50; refine (new_any cap hs rw' (by omega)).mono ?_; rintro e w1 ⟨b, rfl, hb, k1, hb1⟩; have z1 := hb1.size; have hbb := k1.hi)
    | (go_at_call 122; refine (l7DrawAsk_acc k1).mono ?_; rintro e w2 ⟨a1, c1, a2, c2, a3, c3, T, O, P, leaf, now, n, rfl, ⟨k2, o2⟩, hq, hl⟩; have z2 := o2.size; have HQ : Hid (QR w1.heap.size w2 a1 T ∧ QR w1.heap.size w2 a2 O ∧ QR w1.heap.size w2 a3 P) := hq; clear hq; have q0 := (o2.cell (p := ⟨w0.heap.size, 0, none⟩) (by simp only; omega) (by simp only; omega)).trans ((below_cells hb1 _ _ (by omega)).trans r0); have q1 := (o2.cell (p := ⟨w0.heap.size, 1, none⟩) (by simp only; omega) (by simp only; omega)).trans ((below_cells hb1 _ _ (by omega)).trans r1); have q2 := (o2.cell (p := ⟨w0.heap.size, 2, none⟩) (by simp only; omega) (by simp only; omega)).trans ((below_cells hb1 _ _ (by omega)).trans r2); have qf := fun i => (o2.frozen (p := ⟨w0.heap.size, i, none⟩) (by simp only; omega) (by simp only; omega)).trans ((below_frozens hb1 _ _ (by omega)).trans (rf i))))
  refine bodyPost_ret (results_four rfl _ _ _ [.slice a1 T.length c1, .slice a2 O.length c2, .slice a3 P.length c3] rfl (set_three (u0 := .slice none 0 0) (u1 := .slice none 0 0) (u2 := .slice none 0 0) _ _ _ q0 q1 q2) Try.underlying64 rfl (by kernel_rfl)) rfl ?_
  have hO : Only w0.heap.size w2 (((w2.setCell ⟨w0.heap.size, 0, none⟩ (.slice a1 T.length c1)).setCell ⟨w0.heap.size, 1, none⟩ (.slice a2 O.length c2)).setCell ⟨w0.heap.size, 2, none⟩ (.slice a3 P.length c3)) := (((Only.refl w0.heap.size w2).setCell (p := ⟨w0.heap.size, 0, none⟩) rfl _).setCell (p := ⟨w0.heap.size, 1, none⟩) rfl _).setCell (p := ⟨w0.heap.size, 2, none⟩) rfl _
  have h1 : Below w0.heap.size w0 w1 := below_two ow hb1
  have h2 : Below w0.heap.size w0 w2 := h1.trans (o2.below (by omega) (by omega))
  exact ⟨a1, c1, a2, c2, a3, c3, T, O, P, leaf, now, n, rfl, ⟨(HQ.out.1.only hO (by omega)).1, (HQ.out.2.1.only hO (by omega)).1, (HQ.out.2.2.only hO (by omega)).1⟩, ⟨hl.1, hl.2.1, hl.2.2.1⟩, h2.trans (set3_below (Nat.le_refl _) (by omega) _ _ _)⟩
end Go.Proofs.Ytmophpbfaonfmac
