/- Lemmas on the way, of several texts: LendV, LendW, LendEq. -/
import Derived.Test.YtibfclfidaofkasGrpF
import Derived.Test.YtibfclfidaofkasGrpG
import Derived.Test.YtibfclfidaofkasGrpC
import Derived.Deep.Strs
import Derived.Deep.DeepCutAuto
namespace Go.Proofs.Ytibfclfidaofkas
open Go.ChangeShapes Go.WideShapes Go.ChangeAt Go.RowKit
set_option maxRecDepth 100000
set_option linter.unusedVariables false
set_option linter.unusedSimpArgs false

theorem cells_lend : Try.prog.cellsOf 25 = 3 := by kernel_rfl
theorem cells_clsS : Try.prog.cellsOf 22 = 1 := by kernel_rfl
theorem cells_bktS : Try.prog.cellsOf 23 = 1 := by kernel_rfl
theorem open_lend {H : Type} {enc : TypeId × Value → H} {w : World} {sp : Nat → Bool} {held : Bool} {r : Reach} {b0 : Nat} {v : Value} {d : DataW H} {ps : List MemPlace}
    (hv : Value.okWide Try.prog w r b0 25 v) (h : DataW.Trod enc Try.prog w 0 sp held 25 v d ps) :
    ∃ (aT : Option Addr) (cT : Nat) (T : List Q4) (aO : Option Addr) (cO : Nat) (O : List Q4) (aP : Option Addr) (cP : Nat) (P : List Q4), v = .agg #[.slice aT T.length cT, .slice aO O.length cO, .slice aP P.length cP] ∧ Quad w.heap.size w aT T ∧ Quad w.heap.size w aO O ∧ Quad w.heap.size w aP P ∧ T.length ≤ maxLen ∧ O.length ≤ maxLen ∧ P.length ≤ maxLen := by
  have hv' := hv
  unfold Value.okWide at hv'
  rw [Try.underlying25] at hv'
  obtain ⟨cs, rfl, hsz, _⟩ := hv'
  rw [cells_lend] at hsz
  obtain ⟨n, hn⟩ := h
  obtain ⟨y0, y1, y2, m, _, hl, h0, h1, h2⟩ := Go.Deep.trod_struct3 Try.underlying25 hn
  obtain ⟨u0, u1, u2, rfl⟩ : ∃ u0 u1 u2, cs = #[u0, u1, u2] := by
    match cs, hsz with
    | ⟨[u0, u1, u2]⟩, _ => exact ⟨u0, u1, u2, rfl⟩
  have k0 : DataW.trod enc Try.prog w 0 sp held m 22 (List.take (Try.prog.cellsOf 22) (List.drop 0 [u0, u1, u2])) = some y0 := h0
  have k1 : DataW.trod enc Try.prog w 0 sp held m 23 (List.take (Try.prog.cellsOf 23) (List.drop 1 [u0, u1, u2])) = some y1 := h1
  have k2 : DataW.trod enc Try.prog w 0 sp held m 23 (List.take (Try.prog.cellsOf 23) (List.drop 2 [u0, u1, u2])) = some y2 := h2
  rw [cells_clsS] at k0
  rw [cells_bktS] at k1 k2
  have k0' : DataW.trod enc Try.prog w 0 sp held m 22 [u0] = some y0 := k0
  have k1' : DataW.trod enc Try.prog w 0 sp held m 23 [u1] = some y1 := k1
  have k2' : DataW.trod enc Try.prog w 0 sp held m 23 [u2] = some y2 := k2
  obtain ⟨aT, cT, T, rfl, qT, _, _, lT, mT⟩ := open_quads Try.underlying22 Try.underlying83 Try.underlying2 rfl rfl rfl rfl rfl rfl rfl rfl cellsQ_i_class cellsQ_class k0'
  obtain ⟨aO, cO, O, rfl, qO, _, _, lO, mO⟩ := open_quads Try.underlying23 Try.underlying121 Try.underlying2 rfl rfl rfl rfl rfl rfl rfl rfl cellsQ_i_bucket cellsQ_bucket k1'
  obtain ⟨aP, cP, P, rfl, qP, _, _, lP, mP⟩ := open_quads Try.underlying23 Try.underlying121 Try.underlying2 rfl rfl rfl rfl rfl rfl rfl rfl cellsQ_i_bucket cellsQ_bucket k2'
  exact ⟨aT, cT, T, aO, cO, O, aP, cP, P, rfl, qT, qO, qP, by omega, by omega, by omega⟩
abbrev lendV (aT : Option Addr) (nT cT : Nat) (aO : Option Addr) (nO cO : Nat) (aP : Option Addr) (nP cP : Nat) : Value := .agg #[.slice aT nT cT, .slice aO nO cO, .slice aP nP cP]
set_option maxHeartbeats 1000000 in
theorem szLend_any (aT : Option Addr) (nT cT : Nat) (aO : Option Addr) (nO cO : Nat) (aP : Option Addr) (nP cP : Nat) (w : World) (hT : (nT : Int) ≤ 9223372036854775807) (hO : (nO : Int) ≤ 9223372036854775807) (hP : (nP : Int) ≤ 9223372036854775807) :
    Calls Try.prog 18 #[lendV aT nT cT aO nO cO aP nP cP, .int .i64 1048576] w fun e w' => e = .returned (.int .i64 (if nT + nO + nP ≤ 1048576 then 1048576 - (nT : Int) - (nO : Int) - (nP : Int) else -1)) ∧ Below w.heap.size w w' := by
  by_cases h1 : (nT : Int) ≤ 1048576
  · have f1 : (0 : Int) ≤ 1048576 - (nT : Int) := by omega
    by_cases h2 : (nO : Int) ≤ 1048576 - (nT : Int)
    · have f2 : (0 : Int) ≤ 1048576 - (nT : Int) - (nO : Int) := by omega
      by_cases h3 : (nP : Int) ≤ 1048576 - (nT : Int) - (nO : Int)
      · have f3 : (0 : Int) ≤ 1048576 - (nT : Int) - (nO : Int) - (nP : Int) := by omega
        rw [if_pos (by omega)]
        go_enter Try.func18, Try.ntmps18
        go_upto_region 4 with (go_at_call 10; refine (szClassS_gen _ _ _ _ _ hT (by omega) (by omega)).mono ?_; rintro e w2 ⟨rfl, rfl⟩; rw [if_pos h1])
        go_upto_region 7 with (go_at_call 51; refine (szBucketS_gen _ _ _ _ _ hO (by omega) (by omega)).mono ?_; rintro e w3 ⟨rfl, rfl⟩; rw [if_pos h2])
        go_wp2_with (go_at_call 51; refine (szBucketS_gen _ _ _ _ _ hP (by omega) (by omega)).mono ?_; rintro e w4 ⟨rfl, rfl⟩; rw [if_pos h3])
        go_ret
        exact ⟨rfl, by go_grown⟩
      · rw [if_neg (by omega)]
        have H3 : Hid (1048576 - (nT : Int) - (nO : Int) < (nP : Int)) := Int.not_le.1 h3
        clear h3
        go_enter Try.func18, Try.ntmps18
        go_upto_region 4 with (go_at_call 10; refine (szClassS_gen _ _ _ _ _ hT (by omega) (by omega)).mono ?_; rintro e w2 ⟨rfl, rfl⟩; rw [if_pos h1])
        go_upto_region 7 with (go_at_call 51; refine (szBucketS_gen _ _ _ _ _ hO (by omega) (by omega)).mono ?_; rintro e w3 ⟨rfl, rfl⟩; rw [if_pos h2])
        go_wp2_with (go_at_call 51; refine (szBucketS_gen _ _ _ _ _ hP (by omega) (by omega)).mono ?_; rintro e w4 ⟨rfl, rfl⟩; rw [if_neg (Int.not_le.2 H3.out)])
        go_ret
        exact ⟨rfl, by go_grown⟩
    · rw [if_neg (by omega)]
      have H2 : Hid (1048576 - (nT : Int) < (nO : Int)) := Int.not_le.1 h2
      clear h2
      go_enter Try.func18, Try.ntmps18
      go_upto_region 4 with (go_at_call 10; refine (szClassS_gen _ _ _ _ _ hT (by omega) (by omega)).mono ?_; rintro e w2 ⟨rfl, rfl⟩; rw [if_pos h1])
      go_wp2_with (go_at_call 51; refine (szBucketS_gen _ _ _ _ _ hO (by omega) (by omega)).mono ?_; rintro e w3 ⟨rfl, rfl⟩; rw [if_neg (Int.not_le.2 H2.out)])
      go_ret
      exact ⟨rfl, by go_grown⟩
  · rw [if_neg (by omega)]
    go_enter Try.func18, Try.ntmps18
    go_wp2_with (go_at_call 10; refine (szClassS_gen _ _ _ _ _ hT (by omega) (by omega)).mono ?_; rintro e w2 ⟨rfl, rfl⟩; rw [if_neg h1])
    go_ret
    exact ⟨rfl, by go_grown⟩
set_option maxHeartbeats 2000000 in
theorem eqLend_any {w : World} {aT aO aP bT bO bP : Option Addr} (cT cO cP dT dO dP : Nat) {T O P T' O' P' : List Q4} (hT : Quad w.heap.size w aT T) (hO : Quad w.heap.size w aO O) (hP : Quad w.heap.size w aP P) (hT' : Quad w.heap.size w bT T') (hO' : Quad w.heap.size w bO O') (hP' : Quad w.heap.size w bP P') (nT : T.length ≤ 4611686018427387904) (nO : O.length ≤ 4611686018427387904) (nP : P.length ≤ 4611686018427387904) :
    Calls Try.prog 37 #[lendV aT T.length cT aO O.length cO aP P.length cP, lendV bT T'.length dT bO O'.length dO bP P'.length dP] w fun e w' => e = .returned (.bool ((decide (T = T') && decide (O = O')) && decide (P = P'))) ∧ Below w.heap.size w w' := by
  have C0 : Hid (Kept w [(w.heap.size, 1, .slice aO O.length cO), (w.heap.size, 2, .slice aP P.length cP), (w.heap.size + 1, 1, .slice bO O'.length dO), (w.heap.size + 1, 2, .slice bP P'.length dP)] [] ((w.alloc (.cells #[.slice aT T.length cT, .slice aO O.length cO, .slice aP P.length cP] 35)).alloc (.cells #[.slice bT T'.length dT, .slice bO O'.length dO, .slice bP P'.length dP] 35))) :=
    ⟨⟨⟨by simp; omega, by go_simp⟩, ⟨by simp; omega, by go_simp⟩, ⟨by simp, by go_simp⟩, ⟨by simp, by go_simp⟩, trivial⟩, (fun b hb => by cases hb), by go_grown⟩
  obtain ⟨d1, h1⟩ : ∃ d, decide (T = T') = d := ⟨_, rfl⟩
  obtain ⟨d2, h2⟩ : ∃ d, decide (O = O') = d := ⟨_, rfl⟩
  obtain ⟨d3, h3⟩ : ∃ d, decide (P = P') = d := ⟨_, rfl⟩
  have H1 : Hid (decide (T = T') = d1) := h1
  have H2 : Hid (decide (O = O') = d2) := h2
  have H3 : Hid (decide (P = P') = d3) := h3
  rw [h1, h2, h3]
  clear h1 h2 h3
  cases d1
  · go_enter Try.func37, Try.ntmps37
    go_wp2_with (first
      | (go_at_call 14; refine (eqClassS_any cT dT (hT.here C0.out.hb) (hT'.here C0.out.hb) nT).mono ?_; rintro e w2 ⟨rfl, hb2⟩; rw [H1.out]; have K2 := C0.out.next hb2))
    go_ret
    exact ⟨rfl, K2.hb⟩
  · cases d2
    · go_enter Try.func37, Try.ntmps37
      go_wp2_with (first
        | (go_at_call 14; refine (eqClassS_any cT dT (hT.here C0.out.hb) (hT'.here C0.out.hb) nT).mono ?_; rintro e w2 ⟨rfl, hb2⟩; rw [H1.out]; have K2 := C0.out.next hb2; have ⟨⟨kz0, k0⟩, ⟨kz1, k1⟩, ⟨kz2, k2⟩, ⟨kz3, k3⟩, _⟩ := K2.cells; have hb0 := K2.hb; clear K2)
        | (go_at_call 78; refine (eqBucketS_any cO dO (hO.here hb0) (hO'.here hb0) nO).mono ?_; rintro e w3 ⟨rfl, hb3⟩; rw [H2.out]; have hb5 := below_step hb0 hb3))
      go_ret
      exact ⟨rfl, hb5⟩
    · cases d3
      all_goals
        go_enter Try.func37, Try.ntmps37
        go_wp2_with (first
          | (go_at_call 14; refine (eqClassS_any cT dT (hT.here C0.out.hb) (hT'.here C0.out.hb) nT).mono ?_; rintro e w2 ⟨rfl, hb2⟩; rw [H1.out]; have K2 := C0.out.next hb2; have ⟨⟨kz0, k0⟩, ⟨kz1, k1⟩, ⟨kz2, k2⟩, ⟨kz3, k3⟩, _⟩ := K2.cells; have hb0 := K2.hb; have KK : Hid (Kept w _ [] w2) := K2; clear K2)
          | (go_at_call 78; have g1 := hq5; refine (eqBucketS_any cP dP (hP.here hb5) (hP'.here hb5) nP).mono ?_; rintro e w4 ⟨rfl, hb4⟩; rw [H3.out]; have hb6 := below_step hb5 hb4)
          | (go_at_call 78; refine (eqBucketS_any cO dO (hO.here hb0) (hO'.here hb0) nO).mono ?_; rintro e w3 ⟨rfl, hb3⟩; rw [H2.out]; have hb5 := below_step hb0 hb3; have hq5 := hb5.size; have K3 := KK.out.next hb3; have ⟨⟨jz0, j0⟩, ⟨jz1, j1⟩, ⟨jz2, j2⟩, ⟨jz3, j3⟩, _⟩ := K3.cells; clear K3))
        go_ret
        exact ⟨rfl, hb6⟩
end Go.Proofs.Ytibfclfidaofkas
namespace Go.Proofs.Ytibfclfidaofkas
open Go.ChangeShapes Go.WideShapes Go.ChangeAt Go.RowKit
set_option maxRecDepth 100000
set_option linter.unusedVariables false
set_option linter.unusedSimpArgs false

/-- Only blocks of which p says so have turned. -/
structure OnlyP (p : Nat → Prop) (w w' : World) : Prop where
  os : w'.os = w.os
  tape : w'.tape = w.tape
  output : w'.output = w.output
  size : w.heap.size ≤ w'.heap.size
  block : ∀ k, k < w.heap.size → ¬ p k → w'.heap[k]? = w.heap[k]?
theorem OnlyP.of {o : Option Nat} {w w' : World} (h : OnlyO o w w') : OnlyP (fun k => o = some k) w w' := ⟨h.os, h.tape, h.output, h.size, h.block⟩
theorem OnlyP.refl (p : Nat → Prop) (w : World) : OnlyP p w w := ⟨rfl, rfl, rfl, Nat.le_refl _, fun _ _ _ => rfl⟩
theorem OnlyP.trans {p q : Nat → Prop} {u v w : World} (h : OnlyP p u v) (k : OnlyP q v w) : OnlyP (fun b => p b ∨ q b) u w :=
  ⟨k.os.trans h.os, k.tape.trans h.tape, k.output.trans h.output, Nat.le_trans h.size k.size, fun b hb hn => (k.block b (Nat.lt_of_lt_of_le hb h.size) (fun e => hn (.inr e))).trans (h.block b hb (fun e => hn (.inl e)))⟩
theorem OnlyP.of_below {p : Nat → Prop} {w w' : World} (h : Below w.heap.size w w') : OnlyP p w w' := ⟨h.os, h.tape, h.output, h.size, fun k hk _ => h.block k hk⟩
theorem OnlyP.weak {p q : Nat → Prop} {w w' : World} (h : OnlyP p w w') (hp : ∀ k, p k → q k) : OnlyP q w w' := ⟨h.os, h.tape, h.output, h.size, fun k hk hn => h.block k hk (fun e => hn (hp k e))⟩
theorem OnlyP.below {p : Nat → Prop} {w w' : World} {B : Nat} (h : OnlyP p w w') (hp : ∀ k, p k → B ≤ k) (hB : B ≤ w.heap.size) : Below B w w' :=
  ⟨h.os, h.tape, h.output, h.size, fun k hk => h.block k (by omega) (fun e => by have := hp k e; omega)⟩
theorem QFill.onlyP {w w' : World} {g n k : Nat} {xs : List Q4} {p : Nat → Prop} (f : QFill w g n xs k) (ho : OnlyP p w w') (hg : g < w.heap.size) (hn : ¬ p g) : QFill w' g n xs k := by
  have e := ho.block g hg hn
  have hc : ∀ j, w'.cell? ⟨g, j, none⟩ = w.cell? ⟨g, j, none⟩ := fun j => World.cell?_of_block e
  have hf : ∀ j, w'.frozen? ⟨g, j, none⟩ = w.frozen? ⟨g, j, none⟩ := fun j => World.frozen?_of_block e
  refine ⟨fun j hj => ?_, fun i hi hk => ?_⟩
  · rw [hc, hf]
    exact f.any j hj
  · rw [hc, hc, hc, hc]
    exact f.got i hi hk
theorem QV.onlyP {w w' : World} {lo : Nat} {p : Nat → Prop} {v : Value} {xs : List Q4} (h : QV w lo v xs) (hb : OnlyP p w w') (hv : ∀ g, roomB v = some g → ¬ p g) : QV w' lo v xs := by
  rcases h.room with ⟨g, cap, rfl, h1, h2, f, hc⟩ | h
  · exact .inl ⟨g, _, rfl, h1, Nat.lt_of_lt_of_le h2 hb.size, f.onlyP hb h2 (hv g rfl), hc⟩
  · exact .inr h
theorem LV.onlyP {w w' : World} {lo : Nat} {p : Nat → Prop} {sT sO sP : Value} {T O P : List Q4} (h : LV w lo sT sO sP T O P) (hb : OnlyP p w w') (h1 : ∀ g, roomB sT = some g → ¬ p g) (h2 : ∀ g, roomB sO = some g → ¬ p g) (h3 : ∀ g, roomB sP = some g → ¬ p g) : LV w' lo sT sO sP T O P :=
  ⟨h.t.onlyP hb h1, h.o.onlyP hb h2, h.p.onlyP hb h3, h.to, h.tp, h.op⟩
/-- The blocks of three lists. -/
def inL (sT sO sP : Value) (k : Nat) : Prop := roomB sT = some k ∨ roomB sO = some k ∨ roomB sP = some k
theorem LV.lo {w : World} {lo : Nat} {sT sO sP : Value} {T O P : List Q4} (h : LV w lo sT sO sP T O P) {k : Nat} (hk : inL sT sO sP k) : lo ≤ k ∧ k < w.heap.size := by
  rcases hk with e | e | e
  · exact h.t.own e
  · exact h.o.own e
  · exact h.p.own e
theorem set_three {w : World} {g : Nat} {u0 u1 u2 : Value} (a b c : Value) (h0 : w.cell? ⟨g, 0, none⟩ = some u0) (h1 : w.cell? ⟨g, 1, none⟩ = some u1) (h2 : w.cell? ⟨g, 2, none⟩ = some u2) :
    ∀ j v, [a, b, c][j]? = some v → (((w.setCell ⟨g, 0, none⟩ a).setCell ⟨g, 1, none⟩ b).setCell ⟨g, 2, none⟩ c).cell? ⟨g, j, none⟩ = some v := by
  have other : ∀ (x : World) (i k : Nat) (v : Value), i ≠ k → (x.setCell ⟨g, i, none⟩ v).cell? ⟨g, k, none⟩ = x.cell? ⟨g, k, none⟩ := fun x i k v h => World.cell?_setCell_other _ _ _ _ (fun e => h (by injection e with _ e _))
  intro j v hv
  match j, hv with
  | 0, hv => obtain rfl : a = v := by simpa using hv
             exact (other _ 2 0 _ (by decide)).trans ((other _ 1 0 _ (by decide)).trans (set_same _ h0))
  | 1, hv => obtain rfl : b = v := by simpa using hv
             exact (other _ 2 1 _ (by decide)).trans (set_same _ ((other _ 0 1 _ (by decide)).trans h1))
  | 2, hv => obtain rfl : c = v := by simpa using hv
             exact set_same _ ((other _ 1 2 _ (by decide)).trans ((other _ 0 2 _ (by decide)).trans h2))
theorem markClassS_none (a : Option Addr) (k : Int) (w : World) (k0 : 0 ≤ k) (k1 : k ≤ 1000000000) :
    Calls Try.prog 15 #[.slice a 0 0, .int .i64 k] w fun e w' => e = .returned (.int .i64 k) ∧ w' = w := by
  go_enter Try.func15, Try.ntmps15
  go_wp2
  refine wp_loop_rounds 1 ?_
  rw [rounds_succ]
  go_wp2
  go_ret
  exact ⟨rfl, rfl⟩
theorem heldClassS_none (a : Option Addr) (k : Int) (w : World) (k0 : 0 ≤ k) (k1 : k ≤ 1000000000) :
    Calls Try.prog 87 #[.slice a 0 0, .int .i64 k] w fun e w' => e = .returned (.int .i64 k) ∧ w' = w := by
  go_enter Try.func87, Try.ntmps87
  go_wp2
  refine wp_loop_rounds 1 ?_
  rw [rounds_succ]
  go_wp2
  go_ret
  exact ⟨rfl, rfl⟩
theorem markClassS_v {w : World} {lo : Nat} {v : Value} {xs : List Q4} (k : Int) (f : QV w lo v xs) (hn : xs.length ≤ 1048576) (k0 : 0 ≤ k) (k1 : k ≤ 1000000000) :
    Calls Try.prog 15 #[v, .int .i64 k] w fun e w' => e = .returned (.int .i64 (k + 4 * (xs.length : Int))) ∧ QV w' lo v (marks4 k xs.length) ∧ OnlyO (roomB v) w w' := by
  rcases f.room with ⟨g, cap, rfl, h1, h2, f, hc⟩ | ⟨⟨a, rfl⟩, rfl⟩
  · refine (markClassS_any (cap + 1) k f h2 hn k0 k1).mono ?_
    rintro e w' ⟨rfl, f', ho⟩
    refine ⟨rfl, .inl ⟨g, cap + 1, by rw [marks4_length], h1, Nat.lt_of_lt_of_le h2 ho.size, ?_, by rw [marks4_length]; exact hc⟩, OnlyO.of_only ho⟩
    rw [marks4_length]
    exact f'
  · refine (markClassS_none a k w k0 k1).mono ?_
    rintro e w' ⟨rfl, rfl⟩
    refine ⟨by simp, .inr ⟨⟨a, rfl⟩, rfl⟩, ?_⟩
    rw [room_zero]
    exact OnlyO.of_below (Below.refl _ _)
theorem heldClassS_v {w : World} {lo n : Nat} {v : Value} (k : Int) (f : QV w lo v (marks4 k n)) (hn : n ≤ 1048576) (k0 : 0 ≤ k) (k1 : k ≤ 1000000000) :
    Calls Try.prog 87 #[v, .int .i64 k] w fun e w' => e = .returned (.int .i64 (k + 4 * (n : Int))) ∧ w' = w := by
  rcases f with ⟨g, cap, rfl, h1, h2, f, hc⟩ | ⟨⟨a, rfl⟩, hm⟩
  · rw [marks4_length] at f
    rw [marks4_length]
    exact heldClassS_any cap k f hn k0 k1
  · have hn0 : n = 0 := by rw [← marks4_length k n, hm]; rfl
    subst hn0
    refine (heldClassS_none a k w k0 k1).mono ?_
    rintro e w' ⟨rfl, rfl⟩
    exact ⟨by simp, rfl⟩
theorem markBucketS_none (a : Option Addr) (k : Int) (w : World) (k0 : 0 ≤ k) (k1 : k ≤ 1000000000) :
    Calls Try.prog 85 #[.slice a 0 0, .int .i64 k] w fun e w' => e = .returned (.int .i64 k) ∧ w' = w := by
  go_enter Try.func85, Try.ntmps85
  go_wp2
  refine wp_loop_rounds 1 ?_
  rw [rounds_succ]
  go_wp2
  go_ret
  exact ⟨rfl, rfl⟩
theorem heldBucketS_none (a : Option Addr) (k : Int) (w : World) (k0 : 0 ≤ k) (k1 : k ≤ 1000000000) :
    Calls Try.prog 88 #[.slice a 0 0, .int .i64 k] w fun e w' => e = .returned (.int .i64 k) ∧ w' = w := by
  go_enter Try.func88, Try.ntmps88
  go_wp2
  refine wp_loop_rounds 1 ?_
  rw [rounds_succ]
  go_wp2
  go_ret
  exact ⟨rfl, rfl⟩
theorem markBucketS_v {w : World} {lo : Nat} {v : Value} {xs : List Q4} (k : Int) (f : QV w lo v xs) (hn : xs.length ≤ 1048576) (k0 : 0 ≤ k) (k1 : k ≤ 1000000000) :
    Calls Try.prog 85 #[v, .int .i64 k] w fun e w' => e = .returned (.int .i64 (k + 4 * (xs.length : Int))) ∧ QV w' lo v (marks4 k xs.length) ∧ OnlyO (roomB v) w w' := by
  rcases f.room with ⟨g, cap, rfl, h1, h2, f, hc⟩ | ⟨⟨a, rfl⟩, rfl⟩
  · refine (markBucketS_any (cap + 1) k f h2 hn k0 k1).mono ?_
    rintro e w' ⟨rfl, f', ho⟩
    refine ⟨rfl, .inl ⟨g, cap + 1, by rw [marks4_length], h1, Nat.lt_of_lt_of_le h2 ho.size, ?_, by rw [marks4_length]; exact hc⟩, OnlyO.of_only ho⟩
    rw [marks4_length]
    exact f'
  · refine (markBucketS_none a k w k0 k1).mono ?_
    rintro e w' ⟨rfl, rfl⟩
    refine ⟨by simp, .inr ⟨⟨a, rfl⟩, rfl⟩, ?_⟩
    rw [room_zero]
    exact OnlyO.of_below (Below.refl _ _)
theorem heldBucketS_v {w : World} {lo n : Nat} {v : Value} (k : Int) (f : QV w lo v (marks4 k n)) (hn : n ≤ 1048576) (k0 : 0 ≤ k) (k1 : k ≤ 1000000000) :
    Calls Try.prog 88 #[v, .int .i64 k] w fun e w' => e = .returned (.int .i64 (k + 4 * (n : Int))) ∧ w' = w := by
  rcases f with ⟨g, cap, rfl, h1, h2, f, hc⟩ | ⟨⟨a, rfl⟩, hm⟩
  · rw [marks4_length] at f
    rw [marks4_length]
    exact heldBucketS_any cap k f hn k0 k1
  · have hn0 : n = 0 := by rw [← marks4_length k n, hm]; rfl
    subst hn0
    refine (heldBucketS_none a k w k0 k1).mono ?_
    rintro e w' ⟨rfl, rfl⟩
    exact ⟨by simp, rfl⟩
theorem apart_by {a b n m c d g : Nat} (h1 : roomB (.slice (some ⟨a, 0, none⟩) n c) = some g) (h2 : roomB (.slice (some ⟨b, 0, none⟩) m d) = some g) (h : a < b) : False := by
  cases c with
  | zero => cases h1
  | succ c =>
    cases d with
    | zero => cases h2
    | succ d =>
      have e1 : a = g := Option.some.inj h1
      have e2 : b = g := Option.some.inj h2
      omega
set_option maxHeartbeats 4000000 in
theorem toLend_any {w : World} {aT aO aP : Option Addr} (cT cO cP : Nat) {T O P : List Q4} (hT : Quad w.heap.size w aT T) (hO : Quad w.heap.size w aO O) (hP : Quad w.heap.size w aP P) (nT : T.length ≤ 1048576) (nO : O.length ≤ 1048576) (nP : P.length ≤ 1048576) :
    Calls Try.prog 26 #[lendV aT T.length cT aO O.length cO aP P.length cP] w fun e w' => ∃ gT gO gP, e = .returned (lendV (some ⟨gT, 0, none⟩) T.length T.length (some ⟨gO, 0, none⟩) O.length O.length (some ⟨gP, 0, none⟩) P.length P.length) ∧ LV w' w.heap.size (.slice (some ⟨gT, 0, none⟩) T.length T.length) (.slice (some ⟨gO, 0, none⟩) O.length O.length) (.slice (some ⟨gP, 0, none⟩) P.length P.length) T O P ∧ Below w.heap.size w w' := by
  have C0 : Hid (Kept w [(w.heap.size, 1, .slice aO O.length cO), (w.heap.size, 2, .slice aP P.length cP), (w.heap.size + 1, 0, .slice none 0 0), (w.heap.size + 1, 1, .slice none 0 0), (w.heap.size + 1, 2, .slice none 0 0), (w.heap.size + 2, 0, .slice none 0 0), (w.heap.size + 2, 1, .slice none 0 0), (w.heap.size + 2, 2, .slice none 0 0)] [w.heap.size + 1, w.heap.size + 2] (((w.alloc (.cells #[.slice aT T.length cT, .slice aO O.length cO, .slice aP P.length cP] 25)).alloc (.cells #[.slice none 0 0, .slice none 0 0, .slice none 0 0] 35)).alloc (.cells #[.slice none 0 0, .slice none 0 0, .slice none 0 0] 35))) :=
    ⟨⟨⟨by simp <;> omega, by go_simp⟩, ⟨by simp <;> omega, by go_simp⟩, ⟨by simp <;> omega, by go_simp⟩, ⟨by simp <;> omega, by go_simp⟩, ⟨by simp <;> omega, by go_simp⟩, ⟨by simp, by go_simp⟩, ⟨by simp, by go_simp⟩, ⟨by simp, by go_simp⟩, trivial⟩,
     (fun b hb => by simp only [List.mem_cons, List.not_mem_nil, or_false] at hb; rcases hb with rfl | rfl; exact ⟨by simp <;> omega, fun o => by go_simp⟩; exact ⟨by simp, fun o => by go_simp⟩), by go_grown⟩
  go_enter Try.func26, Try.ntmps26
  go_upto_region 3 with (go_at_call 12; refine (toClassS_any cT (hT.here C0.out.hb) nT).mono ?_; rintro e w2 ⟨gT, rfl, g0, g1, fT, hb2⟩; have K := C0.out.next hb2; have ⟨⟨z0, k0⟩, ⟨z1, k1⟩, ⟨z2, k2⟩, ⟨z3, k3⟩, ⟨z4, k4⟩, ⟨z5, k5⟩, ⟨z6, k6⟩, ⟨z7, k7⟩, _⟩ := K.cells; have fr1 := (K.free (w.heap.size + 1) (by simp)).2; have fr2 := (K.free (w.heap.size + 2) (by simp)).2; have KH : Hid (Kept w [(w.heap.size, 1, .slice aO O.length cO), (w.heap.size, 2, .slice aP P.length cP), (w.heap.size + 1, 0, .slice none 0 0), (w.heap.size + 1, 1, .slice none 0 0), (w.heap.size + 1, 2, .slice none 0 0), (w.heap.size + 2, 0, .slice none 0 0), (w.heap.size + 2, 1, .slice none 0 0), (w.heap.size + 2, 2, .slice none 0 0)] [w.heap.size + 1, w.heap.size + 2] w2) := K; clear K)
  simp only [World.size_alloc] at g0
  have K1 : Hid (Kept w [(w.heap.size, 1, .slice aO O.length cO), (w.heap.size, 2, .slice aP P.length cP), (w.heap.size + 1, 0, .slice none 0 0), (w.heap.size + 1, 1, .slice none 0 0), (w.heap.size + 1, 2, .slice none 0 0), (w.heap.size + 2, 0, .slice (some ⟨gT, 0, none⟩) T.length T.length), (w.heap.size + 2, 1, .slice none 0 0), (w.heap.size + 2, 2, .slice none 0 0)] [w.heap.size + 1, w.heap.size + 2] (w2.setCell ⟨w.heap.size + 2, 0, none⟩ (.slice (some ⟨gT, 0, none⟩) T.length T.length))) := (KH.out.put (w.heap.size + 2) 0 (.slice (some ⟨gT, 0, none⟩) T.length T.length) (by omega)).to (by simp [putIn] <;> omega)
  have f1 : QFill (w2.setCell ⟨w.heap.size + 2, 0, none⟩ (.slice (some ⟨gT, 0, none⟩) T.length T.length)) gT T.length T T.length := fT.far _ (by simp; omega)
  obtain ⟨v2, hv2⟩ : ∃ v2, w2.setCell ⟨w.heap.size + 2, 0, none⟩ (.slice (some ⟨gT, 0, none⟩) T.length T.length) = v2 := ⟨_, rfl⟩
  have hs2 : w2.heap.size = v2.heap.size := by rw [← hv2]; simp
  rw [hv2] at K1 f1 ⊢
  rw [hs2] at g1
  clear KH fT hv2 hb2 C0 hs2 k0 k1 k2 k3 k4 k5 k6 k7 z0 z1 z2 z3 z4 z5 z6 z7 fr1 fr2
  have K := K1.out
  have ⟨⟨z0, k0⟩, ⟨z1, k1⟩, ⟨z2, k2⟩, ⟨z3, k3⟩, ⟨z4, k4⟩, ⟨z5, k5⟩, ⟨z6, k6⟩, ⟨z7, k7⟩, _⟩ := K.cells
  have fr1 := (K.free (w.heap.size + 1) (by simp)).2
  have fr2 := (K.free (w.heap.size + 2) (by simp)).2
  clear K
  go_upto_region 4 with (go_at_call 61; refine (toBucketS_any cO (hO.here K1.out.hb) nO).mono ?_; rintro e w3 ⟨gO, rfl, g2, g3, fO, hb3⟩; have K := K1.out.next hb3; have ⟨⟨z0, k0⟩, ⟨z1, k1⟩, ⟨z2, k2⟩, ⟨z3, k3⟩, ⟨z4, k4⟩, ⟨z5, k5⟩, ⟨z6, k6⟩, ⟨z7, k7⟩, _⟩ := K.cells; have fr1 := (K.free (w.heap.size + 1) (by simp)).2; have fr2 := (K.free (w.heap.size + 2) (by simp)).2; have KH : Hid (Kept w [(w.heap.size, 1, .slice aO O.length cO), (w.heap.size, 2, .slice aP P.length cP), (w.heap.size + 1, 0, .slice none 0 0), (w.heap.size + 1, 1, .slice none 0 0), (w.heap.size + 1, 2, .slice none 0 0), (w.heap.size + 2, 0, .slice (some ⟨gT, 0, none⟩) T.length T.length), (w.heap.size + 2, 1, .slice none 0 0), (w.heap.size + 2, 2, .slice none 0 0)] [w.heap.size + 1, w.heap.size + 2] w3) := K; clear K; have f1 := f1.mono hb3 g1)
  have K2 : Hid (Kept w [(w.heap.size, 1, .slice aO O.length cO), (w.heap.size, 2, .slice aP P.length cP), (w.heap.size + 1, 0, .slice none 0 0), (w.heap.size + 1, 1, .slice none 0 0), (w.heap.size + 1, 2, .slice none 0 0), (w.heap.size + 2, 0, .slice (some ⟨gT, 0, none⟩) T.length T.length), (w.heap.size + 2, 1, .slice (some ⟨gO, 0, none⟩) O.length O.length), (w.heap.size + 2, 2, .slice none 0 0)] [w.heap.size + 1, w.heap.size + 2] (w3.setCell ⟨w.heap.size + 2, 1, none⟩ (.slice (some ⟨gO, 0, none⟩) O.length O.length))) := (KH.out.put (w.heap.size + 2) 1 (.slice (some ⟨gO, 0, none⟩) O.length O.length) (by omega)).to (by simp [putIn] <;> omega)
  have hsz3 := hb3.size
  have f1 : QFill (w3.setCell ⟨w.heap.size + 2, 1, none⟩ (.slice (some ⟨gO, 0, none⟩) O.length O.length)) gT T.length T T.length := f1.far _ (by simp; omega)
  have f2 : QFill (w3.setCell ⟨w.heap.size + 2, 1, none⟩ (.slice (some ⟨gO, 0, none⟩) O.length O.length)) gO O.length O O.length := fO.far _ (by simp; omega)
  obtain ⟨v3, hv3⟩ : ∃ v3, w3.setCell ⟨w.heap.size + 2, 1, none⟩ (.slice (some ⟨gO, 0, none⟩) O.length O.length) = v3 := ⟨_, rfl⟩
  have hs3 : w3.heap.size = v3.heap.size := by rw [← hv3]; simp
  rw [hv3] at K2 f1 f2 ⊢
  rw [hs3] at g3
  have g1' : gT < v3.heap.size := by omega
  clear KH fO hv3 hb3 K1 hs3 k0 k1 k2 k3 k4 k5 k6 k7 z0 z1 z2 z3 z4 z5 z6 z7 fr1 fr2
  have K := K2.out
  have ⟨⟨z0, k0⟩, ⟨z1, k1⟩, ⟨z2, k2⟩, ⟨z3, k3⟩, ⟨z4, k4⟩, ⟨z5, k5⟩, ⟨z6, k6⟩, ⟨z7, k7⟩, _⟩ := K.cells
  have fr1 := (K.free (w.heap.size + 1) (by simp)).2
  have fr2 := (K.free (w.heap.size + 2) (by simp)).2
  clear K
  go_upto_region 5 with (go_at_call 61; refine (toBucketS_any cP (hP.here K2.out.hb) nP).mono ?_; rintro e w4 ⟨gP, rfl, g4, g5, fP, hb4⟩; have K := K2.out.next hb4; have ⟨⟨z0, k0⟩, ⟨z1, k1⟩, ⟨z2, k2⟩, ⟨z3, k3⟩, ⟨z4, k4⟩, ⟨z5, k5⟩, ⟨z6, k6⟩, ⟨z7, k7⟩, _⟩ := K.cells; have fr1 := (K.free (w.heap.size + 1) (by simp)).2; have fr2 := (K.free (w.heap.size + 2) (by simp)).2; have KH : Hid (Kept w [(w.heap.size, 1, .slice aO O.length cO), (w.heap.size, 2, .slice aP P.length cP), (w.heap.size + 1, 0, .slice none 0 0), (w.heap.size + 1, 1, .slice none 0 0), (w.heap.size + 1, 2, .slice none 0 0), (w.heap.size + 2, 0, .slice (some ⟨gT, 0, none⟩) T.length T.length), (w.heap.size + 2, 1, .slice (some ⟨gO, 0, none⟩) O.length O.length), (w.heap.size + 2, 2, .slice none 0 0)] [w.heap.size + 1, w.heap.size + 2] w4) := K; clear K; have f1 := f1.mono hb4 g1'; have f2 := f2.mono hb4 g3)
  have K3 : Hid (Kept w [(w.heap.size, 1, .slice aO O.length cO), (w.heap.size, 2, .slice aP P.length cP), (w.heap.size + 1, 0, .slice none 0 0), (w.heap.size + 1, 1, .slice none 0 0), (w.heap.size + 1, 2, .slice none 0 0), (w.heap.size + 2, 0, .slice (some ⟨gT, 0, none⟩) T.length T.length), (w.heap.size + 2, 1, .slice (some ⟨gO, 0, none⟩) O.length O.length), (w.heap.size + 2, 2, .slice (some ⟨gP, 0, none⟩) P.length P.length)] [w.heap.size + 1, w.heap.size + 2] (w4.setCell ⟨w.heap.size + 2, 2, none⟩ (.slice (some ⟨gP, 0, none⟩) P.length P.length))) := (KH.out.put (w.heap.size + 2) 2 (.slice (some ⟨gP, 0, none⟩) P.length P.length) (by omega)).to (by simp [putIn] <;> omega)
  have hsz4 := hb4.size
  have f1 : QFill (w4.setCell ⟨w.heap.size + 2, 2, none⟩ (.slice (some ⟨gP, 0, none⟩) P.length P.length)) gT T.length T T.length := f1.far _ (by simp; omega)
  have f2 : QFill (w4.setCell ⟨w.heap.size + 2, 2, none⟩ (.slice (some ⟨gP, 0, none⟩) P.length P.length)) gO O.length O O.length := f2.far _ (by simp; omega)
  have f3 : QFill (w4.setCell ⟨w.heap.size + 2, 2, none⟩ (.slice (some ⟨gP, 0, none⟩) P.length P.length)) gP P.length P P.length := fP.far _ (by simp; omega)
  obtain ⟨v4, hv4⟩ : ∃ v4, w4.setCell ⟨w.heap.size + 2, 2, none⟩ (.slice (some ⟨gP, 0, none⟩) P.length P.length) = v4 := ⟨_, rfl⟩
  have hs4 : w4.heap.size = v4.heap.size := by rw [← hv4]; simp
  rw [hv4] at K3 f1 f2 f3 ⊢
  rw [hs4] at g5
  clear KH fP hv4 hb4 K2 k0 k1 k2 k3 k4 k5 k6 k7 z0 z1 z2 z3 z4 z5 z6 z7 fr1 fr2
  have K := K3.out
  have ⟨⟨z0, k0⟩, ⟨z1, k1⟩, ⟨z2, k2⟩, ⟨z3, k3⟩, ⟨z4, k4⟩, ⟨z5, k5⟩, ⟨z6, k6⟩, ⟨z7, k7⟩, _⟩ := K.cells
  have fr1 := (K.free (w.heap.size + 1) (by simp)).2
  have fr2 := (K.free (w.heap.size + 2) (by simp)).2
  clear K
  go_wp2
  refine bodyPost_ret (results_one rfl _ _ _ [.slice (some ⟨gT, 0, none⟩) T.length T.length, .slice (some ⟨gO, 0, none⟩) O.length O.length, .slice (some ⟨gP, 0, none⟩) P.length P.length] rfl (set_three (u0 := .slice none 0 0) (u1 := .slice none 0 0) (u2 := .slice none 0 0) _ _ _ k2 k3 k4) Try.underlying35 rfl (by kernel_rfl)) rfl ?_
  have hbf := K3.out.hb
  refine ⟨gT, gO, gP, rfl, ⟨?_, ?_, ?_, ?_, ?_, ?_⟩, ((hbf.setCell (by simp) _).setCell (by simp) _).setCell (by simp) _⟩
  · exact .inl ⟨gT, _, rfl, by omega, by simp; omega, ((f1.far _ (by simp; omega)).far _ (by simp; omega)).far _ (by simp; omega), Nat.le_refl _⟩
  · exact .inl ⟨gO, _, rfl, by omega, by simp; omega, ((f2.far _ (by simp; omega)).far _ (by simp; omega)).far _ (by simp; omega), Nat.le_refl _⟩
  · exact .inl ⟨gP, _, rfl, by omega, by simp; omega, ((f3.far _ (by simp; omega)).far _ (by simp; omega)).far _ (by simp; omega), Nat.le_refl _⟩
  · exact fun g h1 h2 => apart_by h1 h2 (by omega)
  · exact fun g h1 h2 => apart_by h1 h2 (by omega)
  · exact fun g h1 h2 => apart_by h1 h2 (by omega)
set_option maxHeartbeats 2000000 in
theorem markLend_any {w : World} {lo : Nat} {aT aO aP : Option Addr} {nT cT nO cO nP cP : Nat} {T O P : List Q4} (k : Int) (h : LV w lo (.slice aT nT cT) (.slice aO nO cO) (.slice aP nP cP) T O P) (hT : T.length ≤ 1048576) (hO : O.length ≤ 1048576) (hP : P.length ≤ 1048576) (k0 : 0 ≤ k) (k1 : k ≤ 100000000) :
    Calls Try.prog 45 #[lendV aT nT cT aO nO cO aP nP cP, .int .i64 k] w fun e w' => e = .returned (.int .i64 (k + 4 * (T.length : Int) + 4 * (O.length : Int) + 4 * (P.length : Int))) ∧
      LV w' lo (.slice aT nT cT) (.slice aO nO cO) (.slice aP nP cP) (marks4 k T.length) (marks4 (k + 4 * (T.length : Int)) O.length) (marks4 (k + 4 * (T.length : Int) + 4 * (O.length : Int)) P.length) ∧ OnlyP (inL (.slice aT nT cT) (.slice aO nO cO) (.slice aP nP cP)) w w' := by
  have nb : Below w.heap.size w (w.alloc (.cells #[.slice aT nT cT, .slice aO nO cO, .slice aP nP cP] 35)) := new_below _ _
  have c1 : (w.alloc (.cells #[.slice aT nT cT, .slice aO nO cO, .slice aP nP cP] 35)).cell? ⟨w.heap.size, 1, none⟩ = some (.slice aO nO cO) := by go_simp
  have c2 : (w.alloc (.cells #[.slice aT nT cT, .slice aO nO cO, .slice aP nP cP] 35)).cell? ⟨w.heap.size, 2, none⟩ = some (.slice aP nP cP) := by go_simp
  have H : Hid (LV w lo (.slice aT nT cT) (.slice aO nO cO) (.slice aP nP cP) T O P) := h
  have oT : ∀ g, roomB (.slice aT nT cT) = some g → g < w.heap.size := fun g hg => (h.t.own hg).2
  have oO : ∀ g, roomB (.slice aO nO cO) = some g → g < w.heap.size := fun g hg => (h.o.own hg).2
  have oP : ∀ g, roomB (.slice aP nP cP) = some g → g < w.heap.size := fun g hg => (h.p.own hg).2
  clear h
  have nT1 : roomB (.slice aT nT cT) ≠ some w.heap.size := fun e => by have := oT _ e; omega
  have nO1 : roomB (.slice aO nO cO) ≠ some w.heap.size := fun e => by have := oO _ e; omega
  have zb : w.heap.size < (w.alloc (.cells #[.slice aT nT cT, .slice aO nO cO, .slice aP nP cP] 35)).heap.size := by simp
  go_enter Try.func45, Try.ntmps45
  go_upto_region 2 with (go_at_call 15; refine (markClassS_v k (H.out.t.next nb) hT k0 (by omega)).mono ?_; rintro e w2 ⟨rfl, q1, o1⟩; have s1 := o1.size; have c1 := (o1.cell (p := ⟨w.heap.size, 1, none⟩) zb nT1).trans c1; have c2 := (o1.cell (p := ⟨w.heap.size, 2, none⟩) zb nT1).trans c2; have zb2 := Nat.lt_of_lt_of_le zb s1; have p1 := (OnlyP.of_below (p := fun _ => False) nb).trans (OnlyP.of o1); have q2 := (H.out.o.next nb).onlyO o1 (fun g hg e => H.out.to g e hg); have q3 := (H.out.p.next nb).onlyO o1 (fun g hg e => H.out.tp g e hg))
  (try simp only [World.size_alloc] at s1)
  go_upto_region 3 with (go_at_call 85; refine (markBucketS_v (k + 4 * (T.length : Int)) q2 hO (by omega) (by omega)).mono ?_; rintro e w3 ⟨rfl, q4, o2⟩; have s2 := o2.size; have c2 := (o2.cell (p := ⟨w.heap.size, 2, none⟩) zb2 nO1).trans c2; have p2 := p1.trans (OnlyP.of o2); have q1 := q1.onlyO o2 (fun g hg e => H.out.to g hg e); have q3 := q3.onlyO o2 (fun g hg e => H.out.op g e hg))
  go_wp2_with (go_at_call 85; refine (markBucketS_v (k + 4 * (T.length : Int) + 4 * (O.length : Int)) q3 hP (by omega) (by omega)).mono ?_; rintro e w4 ⟨rfl, q5, o3⟩; have p3 := p2.trans (OnlyP.of o3); have q1 := q1.onlyO o3 (fun g hg e => H.out.tp g hg e); have q4 := q4.onlyO o3 (fun g hg e => H.out.op g hg e))
  go_ret
  refine ⟨rfl, ⟨q1, q4, q5, H.out.to, H.out.tp, H.out.op⟩, p3.weak ?_⟩
  rintro b ((((h | h) | h)) | h)
  · cases h
  · exact .inl h
  · exact .inr (.inl h)
  · exact .inr (.inr h)
set_option maxHeartbeats 2000000 in
theorem heldLend_any {w : World} {lo nT' nO' nP' : Nat} {aT aO aP : Option Addr} {nT cT nO cO nP cP : Nat} (k : Int) (h : LV w lo (.slice aT nT cT) (.slice aO nO cO) (.slice aP nP cP) (marks4 k nT') (marks4 (k + 4 * (nT' : Int)) nO') (marks4 (k + 4 * (nT' : Int) + 4 * (nO' : Int)) nP')) (hT : nT' ≤ 1048576) (hO : nO' ≤ 1048576) (hP : nP' ≤ 1048576) (k0 : 0 ≤ k) (k1 : k ≤ 100000000) :
    Calls Try.prog 48 #[lendV aT nT cT aO nO cO aP nP cP, .int .i64 k] w fun e w' => e = .returned (.int .i64 (k + 4 * (nT' : Int) + 4 * (nO' : Int) + 4 * (nP' : Int))) ∧ Below w.heap.size w w' := by
  have nb : Below w.heap.size w (w.alloc (.cells #[.slice aT nT cT, .slice aO nO cO, .slice aP nP cP] 35)) := new_below _ _
  have H : Hid (LV w lo (.slice aT nT cT) (.slice aO nO cO) (.slice aP nP cP) (marks4 k nT') (marks4 (k + 4 * (nT' : Int)) nO') (marks4 (k + 4 * (nT' : Int) + 4 * (nO' : Int)) nP')) := h
  clear h
  have h1 : ¬ (k + 4 * (nT' : Int) < 0) := by omega
  have h2 : ¬ (k + 4 * (nT' : Int) + 4 * (nO' : Int) < 0) := by omega
  have h3 : ¬ (k + 4 * (nT' : Int) + 4 * (nO' : Int) + 4 * (nP' : Int) < 0) := by omega
  go_enter Try.func48, Try.ntmps48
  go_upto_region 4 with (go_at_call 87; refine (heldClassS_v k (H.out.t.next nb) hT k0 (by omega)).mono ?_; rintro e w2 ⟨rfl, rfl⟩)
  go_upto_region 7 with (go_at_call 88; refine (heldBucketS_v (k + 4 * (nT' : Int)) (H.out.o.next nb) hO (by omega) (by omega)).mono ?_; rintro e w3 ⟨rfl, rfl⟩)
  go_wp2_with (go_at_call 88; refine (heldBucketS_v (k + 4 * (nT' : Int) + 4 * (nO' : Int)) (H.out.p.next nb) hP (by omega) (by omega)).mono ?_; rintro e w4 ⟨rfl, rfl⟩)
  go_ret
  exact ⟨rfl, nb⟩
end Go.Proofs.Ytibfclfidaofkas
namespace Go.Proofs.Ytibfclfidaofkas
open Go.ChangeShapes Go.WideShapes Go.ChangeAt Go.RowKit
set_option maxRecDepth 100000
set_option linter.unusedVariables false

theorem eqLV {w : World} {lo lo' : Nat} {a1 a2 a3 b1 b2 b3 : Option Addr} {n1 n2 n3 c1 c2 c3 m1 m2 m3 d1 d2 d3 : Nat} {T O P : List Q4} (h : LV w lo (.slice a1 n1 c1) (.slice a2 n2 c2) (.slice a3 n3 c3) T O P) (h' : LV w lo' (.slice b1 m1 d1) (.slice b2 m2 d2) (.slice b3 m3 d3) T O P) (nT : T.length ≤ 1048576) (nO : O.length ≤ 1048576) (nP : P.length ≤ 1048576) :
    Calls Try.prog 37 #[lendV a1 n1 c1 a2 n2 c2 a3 n3 c3, lendV b1 m1 d1 b2 m2 d2 b3 m3 d3] w fun e w' => e = .returned (.bool true) ∧ Below w.heap.size w w' := by
  obtain ⟨rfl, q1⟩ := h.t.quad
  obtain ⟨rfl, q2⟩ := h.o.quad
  obtain ⟨rfl, q3⟩ := h.p.quad
  obtain ⟨rfl, r1⟩ := h'.t.quad
  obtain ⟨rfl, r2⟩ := h'.o.quad
  obtain ⟨rfl, r3⟩ := h'.p.quad
  refine (eqLend_any c1 c2 c3 d1 d2 d3 q1 q2 q3 r1 r2 r3 (by omega) (by omega) (by omega)).mono ?_
  rintro e w' ⟨rfl, hb⟩
  rw [decide_eq_true (rfl : T = T), decide_eq_true (rfl : O = O), decide_eq_true (rfl : P = P)]
  exact ⟨rfl, hb⟩
end Go.Proofs.Ytibfclfidaofkas
