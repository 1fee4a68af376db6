/- What spec.TurnsOk answers. -/
import Derived.Test.YtdgefdjgpneanadTurnMath
import Derived.Deep.RegionHeld3
import Derived.Deep.DeepCutAuto
namespace Go.Proofs.Ytdgefdjgpneanad
open Go.ChangeShapes Go.WideShapes Go.ChangeAt Go.RowKit
set_option maxRecDepth 100000
set_option linter.unusedVariables false
set_option linter.unusedSimpArgs false

theorem retT {f g : Bool} (h : f = g) : Ending.returned (.bool f) = .returned (.bool g) := by rw [h]
theorem tIn_is {lo x hi : Int} {f : Bool} (h : inB lo x hi = f) (w : World) : Calls Try.prog 73 #[.int .i64 x, .int .i64 lo, .int .i64 hi] w fun e w' => e = .returned (.bool f) ∧ w' = w := by subst h; exact in_any lo x hi w
theorem tSeg_is {x : Int} {f : Bool} (h : sg x = f) (w : World) : Calls Try.prog 89 #[.int .i64 x] w fun e w' => e = .returned (.bool f) ∧ w' = w := by
  go_enter Try.func89, Try.ntmps89
  go_wp2_with (first | (go_at_call 73; refine (tIn_is h _).mono ?_; rintro e w2 ⟨rfl, rfl⟩))
  go_ret
  exact ⟨rfl, rfl⟩
set_option maxHeartbeats 2000000 in
theorem l8Flow_any {w : World} {a : Option Addr} (c : Nat) (q d : Int) {xs : List Int} (h : ISmp w.heap.size w a xs) (hm : xs.length ≤ 4611686018427387904) :
    Calls Try.prog 83 #[.agg #[.int .i64 q, .int .i64 d, .slice a xs.length c]] w fun e w' => e = .returned (.bool (flowB (q, d, xs))) ∧ Below w.heap.size w w' := by
  obtain ⟨v, hv⟩ : ∃ v, v = w.alloc (.cells #[.int .i64 q, .int .i64 d, .slice a xs.length c] 61) := ⟨_, rfl⟩
  have nb : Below w.heap.size w v := by rw [hv]; exact newB _ _
  have k0 : v.cell? ⟨w.heap.size, 0, none⟩ = some (.int .i64 q) := by rw [hv]; go_simp
  have k1 : v.cell? ⟨w.heap.size, 1, none⟩ = some (.int .i64 d) := by rw [hv]; go_simp
  have k2 : v.cell? ⟨w.heap.size, 2, none⟩ = some (.slice a xs.length c) := by rw [hv]; go_simp
  have hmi : (xs.length : Int) ≤ 4611686018427387904 := by omega
  cases h1 : inB 1500 q 1000000000
  · have HC : Hid (flowB (q, d, xs) = false) := by show flowB (q, d, xs) = false; unfold flowB; simp only [h1, Bool.false_and]
    go_enter Try.func83, Try.ntmps83
    go_upto_region 1 with (fail)
    rw [← hv]
    clear hv
    go_wp2_with (first | (go_at_call 73; refine (tIn_is h1 _).mono ?_; rintro e w2 ⟨rfl, rfl⟩))
    go_ret
    exact ⟨retT HC.out.symm, nb⟩
  · have hq := in_num h1
    have hq0 := hq.1
    have hq1 := hq.2
    cases h2 : inB 0 d (q + 1500)
    · have HC : Hid (flowB (q, d, xs) = false) := by show flowB (q, d, xs) = false; unfold flowB; simp only [h1, h2, Bool.true_and, Bool.false_and]
      go_enter Try.func83, Try.ntmps83
      go_upto_region 1 with (fail)
      rw [← hv]
      clear hv
      go_wp2_with (first | (go_at_call 73; have g1 := tk; refine (tIn_is h2 _).mono ?_; rintro e w2 ⟨rfl, rfl⟩) | (go_at_call 73; refine (tIn_is h1 _).mono ?_; rintro e w2 ⟨rfl, rfl⟩; have tk := k0))
      go_ret
      exact ⟨retT HC.out.symm, nb⟩
    · by_cases h3 : xs.length ≤ 100
      · by_cases h4 : (!decide (xs.length = 0) || decide (d = 0)) = true
        · have HC : Hid (flowB (q, d, xs) = allSg xs) := by show flowB (q, d, xs) = allSg xs; unfold flowB; simp only [h1, h2, decide_eq_true h3, h4, Bool.true_and]
          have h3' : (xs.length : Int) ≤ 100 := by omega
          rw [HC.out]
          by_cases h5 : xs.length = 0
          · have hd : d = 0 := by simpa [h5] using h4
            subst hd
            have hx : xs = [] := List.eq_nil_of_length_eq_zero h5
            subst hx
            rw [List.length_nil] at k2
            go_enter Try.func83, Try.ntmps83
            go_upto_region 1 with (fail)
            rw [List.length_nil] at hv
            rw [← hv]
            clear hv
            go_wp2_with (first | (go_at_call 73; have g1 := tk; refine (tIn_is h2 _).mono ?_; rintro e w2 ⟨rfl, rfl⟩) | (go_at_call 73; refine (tIn_is h1 _).mono ?_; rintro e w2 ⟨rfl, rfl⟩; have tk := k0))
            refine wp_loop_rounds 1 ?_
            rw [rounds_succ]
            go_wp2
            go_ret
            exact ⟨rfl, nb⟩
          · have h5' : ((xs.length : Int) == 0) = false := by rw [beq_eq_false_iff_ne]; omega
            go_enter Try.func83, Try.ntmps83
            go_upto_region 1 with (fail)
            rw [← hv]
            clear hv
            go_wp2_with (first | (go_at_call 73; have g1 := tk; refine (tIn_is h2 _).mono ?_; rintro e w2 ⟨rfl, rfl⟩) | (go_at_call 73; refine (tIn_is h1 _).mono ?_; rintro e w2 ⟨rfl, rfl⟩; have tk := k0))
            go_loop [3] (fun i => ∃ k : Nat, i = .int .i64 k ∧ k ≤ xs.length ∧ Hid (∀ j (hj : j < xs.length), j < k → sg xs[j] = true)) (fun i => xs.length - (intOf i).toNat)
            case atStart => exact ⟨0, rfl, by omega, fun j _ hj => by omega⟩
            case round =>
              obtain ⟨k, rfl, hk, HA⟩ := hrel
              by_cases hlt : k < xs.length
              · have hlt' : (k : Int) < (xs.length : Int) := by omega
                obtain ⟨b, off, rfl, hbl, c0⟩ := h.at nb k hlt
                obtain ⟨x, hx⟩ : ∃ x, xs[k] = x := ⟨_, rfl⟩
                rw [hx] at c0
                have HX : Hid (xs[k] = x) := hx
                clear hx
                cases hs : sg x
                · have HB : Hid (allSg xs = false) := sg_bad hlt (by rw [HX.out]; exact hs)
                  go_wp2_with (first | (go_at_call 89; refine (tSeg_is hs _).mono ?_; rintro e w2 ⟨rfl, rfl⟩))
                  go_ret
                  exact ⟨retT HB.out.symm, nb⟩
                · go_wp2_with (first | (go_at_call 89; refine (tSeg_is hs _).mono ?_; rintro e w2 ⟨rfl, rfl⟩))
                  go_round
                  case rel =>
                    refine ⟨k + 1, by go_num, by omega, fun j hj hjk => ?_⟩
                    by_cases e : j = k
                    · subst e; rw [HX.out]; exact hs
                    · exact HA.out j hj (by omega)
                  case measure => first | (simp [intOf]; done) | (simp [intOf]; omega)
              · have e : k = xs.length := by omega
                subst e
                have HB : Hid (allSg xs = true) := sg_all (fun j hj => HA.out j hj hj)
                go_wp2
                go_ret
                exact ⟨retT HB.out.symm, nb⟩
        · have HC : Hid (flowB (q, d, xs) = false) := by show flowB (q, d, xs) = false; unfold flowB; simp only [eq_false_of_ne_true h4, Bool.and_false, Bool.false_and]
          have h5 : xs.length = 0 ∧ ¬ d = 0 := by simpa using h4
          have h5' : (d == 0) = false := by rw [beq_eq_false_iff_ne]; exact h5.2
          have hx : xs = [] := List.eq_nil_of_length_eq_zero h5.1
          clear h5 h4
          subst hx
          rw [List.length_nil] at k2
          go_enter Try.func83, Try.ntmps83
          go_upto_region 1 with (fail)
          rw [List.length_nil] at hv
          rw [← hv]
          clear hv
          go_wp2_with (first | (go_at_call 73; have g1 := tk; refine (tIn_is h2 _).mono ?_; rintro e w2 ⟨rfl, rfl⟩) | (go_at_call 73; refine (tIn_is h1 _).mono ?_; rintro e w2 ⟨rfl, rfl⟩; have tk := k0))
          go_ret
          exact ⟨retT HC.out.symm, nb⟩
      · have HC : Hid (flowB (q, d, xs) = false) := by show flowB (q, d, xs) = false; unfold flowB; simp only [decide_eq_false h3, Bool.and_false, Bool.false_and]
        have h3' : (100 : Int) < (xs.length : Int) := by omega
        go_enter Try.func83, Try.ntmps83
        go_upto_region 1 with (fail)
        rw [← hv]
        clear hv
        go_wp2_with (first | (go_at_call 73; have g1 := tk; refine (tIn_is h2 _).mono ?_; rintro e w2 ⟨rfl, rfl⟩) | (go_at_call 73; refine (tIn_is h1 _).mono ?_; rintro e w2 ⟨rfl, rfl⟩; have tk := k0))
        go_ret
        exact ⟨retT HC.out.symm, nb⟩
set_option maxHeartbeats 4000000 in
theorem specTurnsOk_any {w : World} {a : Option Addr} (c : Nat) {fs : List F8} (at' : Int) (fresh : Bool) (h : Fls w.heap.size w a fs) (hm : fs.length ≤ 4611686018427387904) (hl : ∀ f ∈ fs, f.2.2.length ≤ 4611686018427387904) :
    Calls Try.prog 30 #[turnV a fs.length c at' fresh] w fun e w' => e = .returned (.bool (turnsB fs at' fresh)) ∧ Below w.heap.size w w' := by
  obtain ⟨v, hv⟩ : ∃ v, v = w.alloc (.cells #[.slice a fs.length c, .int .i64 at', .bool fresh] 48) := ⟨_, rfl⟩
  have nb : Below w.heap.size w v := by rw [hv]; exact newB _ _
  have KV : Hid (Cells v [(w.heap.size, 0, .slice a fs.length c), (w.heap.size, 1, .int .i64 at'), (w.heap.size, 2, .bool fresh)]) := by rw [hv]; exact ⟨⟨by simp, by go_simp⟩, ⟨by simp, by go_simp⟩, ⟨by simp, by go_simp⟩, trivial⟩
  have ⟨⟨zk0, k0⟩, ⟨zk1, k1⟩, ⟨zk2, k2⟩, _⟩ := KV.out
  have hmi : (fs.length : Int) ≤ 4611686018427387904 := by omega
  by_cases hl1 : 1 ≤ fs.length
  · have hl1' : (1 : Int) ≤ (fs.length : Int) := by omega
    by_cases hl2 : fs.length ≤ 30
    · have hl2' : (fs.length : Int) ≤ 30 := by omega
      have e0 : inB 1 (fs.length : Int) 30 = true := by unfold inB; rw [decide_eq_true hl1', decide_eq_true hl2']; rfl
      cases ha : inB 0 at' ((fs.length : Int) - 1)
      · have HC : Hid (turnsB fs at' fresh = false) := by show turnsB fs at' fresh = false; unfold turnsB; simp only [ha, Bool.and_false, Bool.false_and]
        go_enter Try.func30, Try.ntmps30
        go_upto_region 1 with (fail)
        rw [← hv]
        clear hv
        go_wp2_with (first | (go_at_call 73; refine (tIn_is ha _).mono ?_; rintro e w2 ⟨rfl, rfl⟩))
        go_ret
        exact ⟨retT HC.out.symm, nb⟩
      · have HC : Hid (turnsB fs at' fresh = okTo fs at' fresh fs.length) := by show turnsB fs at' fresh = _; unfold turnsB; simp only [ha, e0, Bool.true_and]
        rw [HC.out]
        clear e0
        go_enter Try.func30, Try.ntmps30
        go_upto_region 1 with (fail)
        rw [← hv]
        clear hv
        go_wp2_with (first | (go_at_call 73; refine (tIn_is ha _).mono ?_; rintro e w2 ⟨rfl, rfl⟩))
        clear k0 k1 k2 zk0 zk1 zk2
        go_loopw [3] (fun i wr => ∃ k : Nat, i = .int .i64 k ∧ k ≤ fs.length ∧ Hid (okTo fs at' fresh k = true) ∧ Below w.heap.size w wr ∧ Cells wr [(w.heap.size, 0, .slice a fs.length c), (w.heap.size, 1, .int .i64 at'), (w.heap.size, 2, .bool fresh)]) (fun i _ => fs.length - (intOf i).toNat)
        case atStart => exact ⟨0, rfl, by omega, rfl, nb, KV.out⟩
        case round =>
          obtain ⟨k, rfl, hk, HO, ho, hc⟩ := hrel
          have KC : Hid (Cells wr [(w.heap.size, 0, .slice a fs.length c), (w.heap.size, 1, .int .i64 at'), (w.heap.size, 2, .bool fresh)]) := hc
          have ⟨⟨zk0, k0⟩, ⟨zk1, k1⟩, ⟨zk2, k2⟩, _⟩ := hc
          clear hc
          by_cases hlt : k < fs.length
          · have hlt' : (k : Int) < (fs.length : Int) := by omega
            obtain ⟨b, off, sa, sc, rfl, hbl, c0, c1, c2, m1'⟩ := h.at ho k hlt
            obtain ⟨_, _, sa', sc', e1, _, _, _, c2', m1⟩ := h k hlt
            injection e1 with e1
            injection e1 with e1 e2
            subst e1 e2
            have c2'' := (ho.cell (p := ⟨b, off + k * 3 + 2, none⟩) hbl).trans c2'
            rw [c2] at c2''
            injection c2'' with c2''
            injection c2'' with c2'' _ c3''
            subst c2'' c3''
            clear c2' m1'
            have hbz : b < wr.heap.size := Nat.lt_of_lt_of_le hbl ho.size
            have hlm := hl _ (List.getElem_mem hlt)
            have HN := ok_next (at' := at') (fresh := fresh) hlt
            rw [HO.out, Bool.true_and] at HN
            have HBD : Hid (atB at' fresh k fs[k] = false → okTo fs at' fresh fs.length = false) := fun hx => ok_bad hlt hx
            obtain ⟨x, hx⟩ : ∃ x, fs[k] = x := ⟨_, rfl⟩
            rw [hx] at c0 c1 c2 m1 hlm HN HBD
            clear hx
            obtain ⟨q, d, xs⟩ := x
            simp only at c0 c1 c2 m1 hlm
            obtain ⟨f1, hf1⟩ : ∃ f, flowB (q, d, xs) = f := ⟨_, rfl⟩
            have HF : Hid (flowB (q, d, xs) = f1) := hf1
            have hat : atB at' fresh k (q, d, xs) = (f1 && ((decide ((k : Int) = at') && !fresh) || decide (d < 1500))) := by unfold atB; rw [hf1]
            rw [hat] at HN HBD
            clear hf1 hat
            cases f1
            · have HB : Hid (okTo fs at' fresh fs.length = false) := HBD.out rfl
              clear HN HBD
              go_wp2_with (first | (go_at_call 83; refine (l8Flow_any sc q d (m1.here ho) hlm).mono ?_; rintro e w2 ⟨rfl, hb2⟩; rw [HF.out]; have hx2 := below_step ho hb2; have ⟨⟨u0, j0⟩, ⟨u1, j1⟩, ⟨u2, j2⟩, _⟩ := Cells.next hb2 KC.out; have i0 := (hb2.cell (p := ⟨b, off + k * 3, none⟩) hbz).trans c0; have i1 := (hb2.cell (p := ⟨b, off + k * 3 + 1, none⟩) hbz).trans c1))
              go_ret
              exact ⟨retT HB.out.symm, hx2⟩
            · rw [Bool.true_and] at HN HBD
              by_cases hka : (k : Int) = at'
              · rw [decide_eq_true hka, Bool.true_and] at HN HBD
                cases fresh
                · rw [show (!false || decide (d < 1500)) = true from rfl] at HN
                  have HN : Hid (okTo fs at' false (k + 1) = true) := HN
                  clear HBD
                  subst hka
                  go_wp2_with (first | (go_at_call 83; refine (l8Flow_any sc q d (m1.here ho) hlm).mono ?_; rintro e w2 ⟨rfl, hb2⟩; rw [HF.out]; have hx2 := below_step ho hb2; have ⟨⟨u0, j0⟩, ⟨u1, j1⟩, ⟨u2, j2⟩, _⟩ := Cells.next hb2 KC.out; have i0 := (hb2.cell (p := ⟨b, off + k * 3, none⟩) hbz).trans c0; have i1 := (hb2.cell (p := ⟨b, off + k * 3 + 1, none⟩) hbz).trans c1))
                  go_roundw
                  case rel => exact ⟨k + 1, by go_num, by omega, HN.out, hx2, Cells.next hb2 KC.out⟩
                  case measure => first | (simp [intOf]; done) | (simp [intOf]; omega)
                · by_cases hd : d < 1500
                  · rw [decide_eq_true hd] at HN
                    have HN : Hid (okTo fs at' true (k + 1) = true) := HN
                    clear HBD
                    subst hka
                    go_wp2_with (first | (go_at_call 83; refine (l8Flow_any sc q d (m1.here ho) hlm).mono ?_; rintro e w2 ⟨rfl, hb2⟩; rw [HF.out]; have hx2 := below_step ho hb2; have ⟨⟨u0, j0⟩, ⟨u1, j1⟩, ⟨u2, j2⟩, _⟩ := Cells.next hb2 KC.out; have i0 := (hb2.cell (p := ⟨b, off + k * 3, none⟩) hbz).trans c0; have i1 := (hb2.cell (p := ⟨b, off + k * 3 + 1, none⟩) hbz).trans c1))
                    go_roundw
                    case rel => exact ⟨k + 1, by go_num, by omega, HN.out, hx2, Cells.next hb2 KC.out⟩
                    case measure => first | (simp [intOf]; done) | (simp [intOf]; omega)
                  · rw [decide_eq_false hd] at HN HBD
                    have HB : Hid (okTo fs at' true fs.length = false) := HBD.out rfl
                    clear HN HBD
                    subst hka
                    have hd' : 1500 ≤ d := by omega
                    go_wp2_with (first | (go_at_call 83; refine (l8Flow_any sc q d (m1.here ho) hlm).mono ?_; rintro e w2 ⟨rfl, hb2⟩; rw [HF.out]; have hx2 := below_step ho hb2; have ⟨⟨u0, j0⟩, ⟨u1, j1⟩, ⟨u2, j2⟩, _⟩ := Cells.next hb2 KC.out; have i0 := (hb2.cell (p := ⟨b, off + k * 3, none⟩) hbz).trans c0; have i1 := (hb2.cell (p := ⟨b, off + k * 3 + 1, none⟩) hbz).trans c1))
                    go_ret
                    exact ⟨retT HB.out.symm, hx2⟩
              · rw [decide_eq_false hka, Bool.false_and, Bool.false_or] at HN HBD
                have hka' : ((k : Int) == at') = false := by rw [beq_eq_false_iff_ne]; exact hka
                by_cases hd : d < 1500
                · rw [decide_eq_true hd] at HN
                  have HN : Hid (okTo fs at' fresh (k + 1) = true) := HN
                  clear HBD
                  go_wp2_with (first | (go_at_call 83; refine (l8Flow_any sc q d (m1.here ho) hlm).mono ?_; rintro e w2 ⟨rfl, hb2⟩; rw [HF.out]; have hx2 := below_step ho hb2; have ⟨⟨u0, j0⟩, ⟨u1, j1⟩, ⟨u2, j2⟩, _⟩ := Cells.next hb2 KC.out; have i0 := (hb2.cell (p := ⟨b, off + k * 3, none⟩) hbz).trans c0; have i1 := (hb2.cell (p := ⟨b, off + k * 3 + 1, none⟩) hbz).trans c1))
                  go_roundw
                  case rel => exact ⟨k + 1, by go_num, by omega, HN.out, hx2, Cells.next hb2 KC.out⟩
                  case measure => first | (simp [intOf]; done) | (simp [intOf]; omega)
                · rw [decide_eq_false hd] at HN HBD
                  have HB : Hid (okTo fs at' fresh fs.length = false) := HBD.out rfl
                  clear HN HBD
                  have hd' : 1500 ≤ d := by omega
                  go_wp2_with (first | (go_at_call 83; refine (l8Flow_any sc q d (m1.here ho) hlm).mono ?_; rintro e w2 ⟨rfl, hb2⟩; rw [HF.out]; have hx2 := below_step ho hb2; have ⟨⟨u0, j0⟩, ⟨u1, j1⟩, ⟨u2, j2⟩, _⟩ := Cells.next hb2 KC.out; have i0 := (hb2.cell (p := ⟨b, off + k * 3, none⟩) hbz).trans c0; have i1 := (hb2.cell (p := ⟨b, off + k * 3 + 1, none⟩) hbz).trans c1))
                  go_ret
                  exact ⟨retT HB.out.symm, hx2⟩
          · have e : k = fs.length := by omega
            subst e
            have HB : Hid (okTo fs at' fresh fs.length = true) := HO
            go_wp2
            go_ret
            exact ⟨retT HB.out.symm, ho⟩
    · have HC : Hid (turnsB fs at' fresh = false) := by show turnsB fs at' fresh = false; unfold turnsB inB; simp only [decide_eq_false (show ¬ (fs.length : Int) ≤ 30 by omega), Bool.and_false, Bool.false_and]
      have hl2' : (30 : Int) < (fs.length : Int) := by omega
      go_enter Try.func30, Try.ntmps30
      go_upto_region 1 with (fail)
      rw [← hv]
      clear hv
      go_wp2
      go_ret
      exact ⟨retT HC.out.symm, nb⟩
  · have HC : Hid (turnsB fs at' fresh = false) := by show turnsB fs at' fresh = false; unfold turnsB inB; simp only [decide_eq_false (show ¬ (1 : Int) ≤ (fs.length : Int) by omega), Bool.false_and]
    have hl1' : (fs.length : Int) < 1 := by omega
    go_enter Try.func30, Try.ntmps30
    go_upto_region 1 with (fail)
    rw [← hv]
    clear hv
    go_wp2
    go_ret
    exact ⟨retT HC.out.symm, nb⟩
end Go.Proofs.Ytdgefdjgpneanad
