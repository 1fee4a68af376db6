/- What spec.Observe answers where nothing is refused. -/
import Derived.Test.YtiibafphgjlffaeObsMath
import Derived.Test.YtiibafphgjlffaePushBoth
import Derived.Deep.CutBlock
import Derived.Deep.CutRange
namespace Go.Proofs.Ytiibafphgjlffae
open Go.ChangeShapes Go.WideShapes Go.ChangeAt Go.RowKit
set_option maxRecDepth 100000
set_option linter.unusedVariables false
set_option linter.unusedSimpArgs false

theorem pok_more {sa cy sn tp sv mt ta : Int} {xs : List (Int × Int)} (h : pokB sa cy sn tp sv mt ta xs = true) : (0 ≤ sn ∧ sn ≤ 1000000000000000) ∧ (0 ≤ ta ∧ ta ≤ 1000000000000000) ∧ (0 ≤ tp ∧ tp ≤ 1000000000000) ∧ (0 ≤ cy ∧ cy ≤ 7) ∧ (0 ≤ sv ∧ sv ≤ 3) := by
  unfold pokB inP timeB rateB at h
  simp only [Bool.and_eq_true, decide_eq_true_eq] at h
  omega
theorem fv_smpO {w : World} {lo n c : Nat} {a : Option Addr} {ys : List (Int × Int)} (h : FV w lo (.slice a n c) ys) : ys.length = n ∧ Smp w.heap.size w a ys := by
  rcases h with ⟨g, cap, e, h1, h2, f, hc⟩ | ⟨e, rfl⟩
  · injection e with e1 e2 e3
    subst e1 e2
    exact ⟨rfl, f.smp h2⟩
  · injection e with e1 e2 e3
    subst e1 e2
    exact ⟨rfl, fun i h => by cases h⟩
theorem obB_sn (now be : Int) (p : Pb) : (obB now be p).sn = p.sn ∨ (obB now be p).sn = now := by
  unfold obB
  split
  · split
    · exact .inl rfl
    · split
      · exact .inr rfl
      · exact .inl rfl
  · exact .inl rfl
theorem obC_sn (now be flight : Int) (p : Pb) : ((obC now be flight p).sn = p.sn ∨ (obC now be flight p).sn = now) ∧ ((obC now be flight p).cy = p.cy ∨ (obC now be flight p).cy = 0) := by
  unfold obC
  split
  · exact ⟨.inr rfl, .inr rfl⟩
  · exact ⟨.inl rfl, .inl rfl⟩
theorem obD_sn (was now : Int) (p : Pb) : (obD was now p).sn = p.sn ∨ (obD was now p).sn = now := by
  unfold obD
  split
  · exact .inr rfl
  · exact .inl rfl
theorem obE_sn (was now : Int) (p : Pb) : (obE was now p).sn = p.sn ∨ (obE was now p).sn = now := by
  unfold obE
  split
  · exact .inr rfl
  · exact .inl rfl
def ObPost (w : World) (zs : List (Int × Int)) (s : Pb) (e : Ending) (w' : World) : Prop := ∃ g c, e = .returned (.agg #[.int .i64 s.sa, .int .i64 s.cy, .int .i64 s.sn, .int .i64 s.tp, .int .i64 s.sv, .slice (some ⟨g, 0, none⟩) zs.length c, .int .i64 s.mt, .int .i64 s.ta]) ∧ FV w' w.heap.size (.slice (some ⟨g, 0, none⟩) zs.length c) zs ∧ Below w.heap.size w w'
set_option maxHeartbeats 8000000 in
theorem specObserve_go {sa cy sn tp sv mt ta now rate trip flight : Int} {w : World} {a : Option Addr} (cap : Nat) {xs zs : List (Int × Int)} (hp : pokB sa cy sn tp sv mt ta xs = true) (hn : timeB now = true) (hr : rateB rate = true) (ht : inP 1 trip 1000000000000000 = true) (hw : w10B flight = true) (h1 : ¬ now < sn) (h2 : ¬ now < ta) (HP : Hid (PushOk true xs (now, rate) 10000000000)) (HZ : Hid (pushOf true xs (now, rate) 10000000000 = zs)) (smp : Smp w.heap.size w a xs) : Calls Try.prog 44 #[.agg #[.int .i64 sa, .int .i64 cy, .int .i64 sn, .int .i64 tp, .int .i64 sv, .slice a xs.length cap, .int .i64 mt, .int .i64 ta], .int .i64 now, .int .i64 rate, .int .i64 trip, .int .i64 flight] w (ObPost w zs (obs now (bestOf zs) trip flight ⟨sa, cy, sn, tp, sv, mt, ta⟩)) := by
  go_enter Try.func44, Try.ntmps44
  go_upto_region 4 with (first
    | (go_at_call 51; refine (specProbeOk_is cap hp (smp.here (by go_grown))).mono ?_; rintro e w3 ⟨rfl, hb3⟩; have hbw : Below w.heap.size w w3 := below_two (by go_grown) hb3; have kc := below_cells4 hb3; have kf := below_frozens4 hb3; have zl := hb3.size; (try simp at zl); have s0 : w3.cell? ⟨w.heap.size, 0, none⟩ = some (.int .i64 sa) := (kc _ _ (by simp; try omega)).trans (by go_simp); have s1 : w3.cell? ⟨w.heap.size, 1, none⟩ = some (.int .i64 cy) := (kc _ _ (by simp; try omega)).trans (by go_simp); have s2 : w3.cell? ⟨w.heap.size, 2, none⟩ = some (.int .i64 sn) := (kc _ _ (by simp; try omega)).trans (by go_simp); have s3 : w3.cell? ⟨w.heap.size, 3, none⟩ = some (.int .i64 tp) := (kc _ _ (by simp; try omega)).trans (by go_simp); have s4 : w3.cell? ⟨w.heap.size, 4, none⟩ = some (.int .i64 sv) := (kc _ _ (by simp; try omega)).trans (by go_simp); have s5 : w3.cell? ⟨w.heap.size, 5, none⟩ = some (.slice a xs.length cap) := (kc _ _ (by simp; try omega)).trans (by go_simp); have s6 : w3.cell? ⟨w.heap.size, 6, none⟩ = some (.int .i64 mt) := (kc _ _ (by simp; try omega)).trans (by go_simp); have s7 : w3.cell? ⟨w.heap.size, 7, none⟩ = some (.int .i64 ta) := (kc _ _ (by simp; try omega)).trans (by go_simp); have q0 : w3.cell? ⟨w.heap.size + 1, 0, none⟩ = some (.int .i64 0) := (kc _ _ (by simp; try omega)).trans (by go_simp); have q1 : w3.cell? ⟨w.heap.size + 1, 1, none⟩ = some (.int .i64 0) := (kc _ _ (by simp; try omega)).trans (by go_simp); have q2 : w3.cell? ⟨w.heap.size + 1, 2, none⟩ = some (.int .i64 0) := (kc _ _ (by simp; try omega)).trans (by go_simp); have q3 : w3.cell? ⟨w.heap.size + 1, 3, none⟩ = some (.int .i64 0) := (kc _ _ (by simp; try omega)).trans (by go_simp); have q4 : w3.cell? ⟨w.heap.size + 1, 4, none⟩ = some (.int .i64 0) := (kc _ _ (by simp; try omega)).trans (by go_simp); have q5 : w3.cell? ⟨w.heap.size + 1, 5, none⟩ = some (.slice none 0 0) := (kc _ _ (by simp; try omega)).trans (by go_simp); have q6 : w3.cell? ⟨w.heap.size + 1, 6, none⟩ = some (.int .i64 0) := (kc _ _ (by simp; try omega)).trans (by go_simp); have q7 : w3.cell? ⟨w.heap.size + 1, 7, none⟩ = some (.int .i64 0) := (kc _ _ (by simp; try omega)).trans (by go_simp); have sz : ∀ o : Nat, w3.frozen? ⟨w.heap.size, o, none⟩ = false := (fun o => (kf _ _ (by simp; try omega)).trans (by go_simp)); have qz : ∀ o : Nat, w3.frozen? ⟨w.heap.size + 1, o, none⟩ = false := (fun o => (kf _ _ (by simp; try omega)).trans (by go_simp)); clear kc kf)
    | (go_at_call 73; refine (timP_is hn _).mono ?_; rintro e w4 ⟨rfl, rfl⟩)
    | (go_at_call 95; refine (ratP_is hr _).mono ?_; rintro e w4 ⟨rfl, rfl⟩)
    | (go_at_call 66; refine (inP_is ht _).mono ?_; rintro e w4 ⟨rfl, rfl⟩)
    | (go_at_call 72; refine (sWin_is hw _).mono ?_; rintro e w4 ⟨rfl, rfl⟩)
    | (go_at_call 96; refine (specPush_yes cap (smp.here hbw) HP.out).mono ?_; rw [HZ.out]; rintro e wP ⟨g, cg, rfl, hg0, hg1, fg, hcg, hbP⟩))
  obtain ⟨x3, hx3⟩ : ∃ x, x = wP.alloc (.cells #[.slice (some ⟨g, 0, none⟩) zs.length cg] 51) := ⟨_, rfl⟩
  obtain ⟨fb, hfb⟩ : ∃ b, b = wP.heap.size := ⟨_, rfl⟩
  rw [← hx3, ← hfb]
  have f0 : x3.cell? ⟨fb, 0, none⟩ = some (.slice (some ⟨g, 0, none⟩) zs.length cg) := by rw [hx3, hfb]; go_simp
  have hb4 : Below wP.heap.size wP x3 := by rw [hx3]; exact new_below _ _
  have z4 : fb < x3.heap.size := by rw [hx3, hfb]; simp
  have of : w.heap.size + 1 < fb := by have := hbP.size; omega
  have fg4 : FV x3 (w.heap.size + 2) (.slice (some ⟨g, 0, none⟩) zs.length cg) zs := (FV.lower (.inl ⟨g, cg, rfl, hg0, hg1, fg, hcg⟩) (by omega)).next hb4
  have hb5 := below_two hbP hb4
  clear hx3 hfb
  have s0 := (hb5.cell (p := ⟨w.heap.size, 0, none⟩) (by show w.heap.size < _; omega)).trans s0
  have q0 := (hb5.cell (p := ⟨w.heap.size + 1, 0, none⟩) (by show w.heap.size + 1 < _; omega)).trans q0
  have s1 := (hb5.cell (p := ⟨w.heap.size, 1, none⟩) (by show w.heap.size < _; omega)).trans s1
  have q1 := (hb5.cell (p := ⟨w.heap.size + 1, 1, none⟩) (by show w.heap.size + 1 < _; omega)).trans q1
  have s2 := (hb5.cell (p := ⟨w.heap.size, 2, none⟩) (by show w.heap.size < _; omega)).trans s2
  have q2 := (hb5.cell (p := ⟨w.heap.size + 1, 2, none⟩) (by show w.heap.size + 1 < _; omega)).trans q2
  have s3 := (hb5.cell (p := ⟨w.heap.size, 3, none⟩) (by show w.heap.size < _; omega)).trans s3
  have q3 := (hb5.cell (p := ⟨w.heap.size + 1, 3, none⟩) (by show w.heap.size + 1 < _; omega)).trans q3
  have s4 := (hb5.cell (p := ⟨w.heap.size, 4, none⟩) (by show w.heap.size < _; omega)).trans s4
  have q4 := (hb5.cell (p := ⟨w.heap.size + 1, 4, none⟩) (by show w.heap.size + 1 < _; omega)).trans q4
  have s5 := (hb5.cell (p := ⟨w.heap.size, 5, none⟩) (by show w.heap.size < _; omega)).trans s5
  have q5 := (hb5.cell (p := ⟨w.heap.size + 1, 5, none⟩) (by show w.heap.size + 1 < _; omega)).trans q5
  have s6 := (hb5.cell (p := ⟨w.heap.size, 6, none⟩) (by show w.heap.size < _; omega)).trans s6
  have q6 := (hb5.cell (p := ⟨w.heap.size + 1, 6, none⟩) (by show w.heap.size + 1 < _; omega)).trans q6
  have s7 := (hb5.cell (p := ⟨w.heap.size, 7, none⟩) (by show w.heap.size < _; omega)).trans s7
  have q7 := (hb5.cell (p := ⟨w.heap.size + 1, 7, none⟩) (by show w.heap.size + 1 < _; omega)).trans q7
  have sz := fun o => (hb5.frozen (p := ⟨w.heap.size, o, none⟩) (by show w.heap.size < _; omega)).trans (sz o)
  have qz := fun o => (hb5.frozen (p := ⟨w.heap.size + 1, o, none⟩) (by show w.heap.size + 1 < _; omega)).trans (qz o)
  go_upto_region 8 with (fail)
  obtain ⟨x4, hx4⟩ : ∃ x, x = x3.setCell ⟨w.heap.size, 5, none⟩ (.slice (some ⟨g, 0, none⟩) zs.length cg) := ⟨_, rfl⟩
  rw [← hx4]
  have oX : Only w.heap.size x3 x4 := by rw [hx4]; exact only_set3x _ _ _ _
  have D : Hid (OB w x4 fb (some ⟨g, 0, none⟩) zs.length cg zs ⟨sa, cy, sn, tp, sv, mt, ta⟩) := ⟨(by rw [hx4]; exact (set_other4 (by decide)).trans s0), (by rw [hx4]; exact (set_other4 (by decide)).trans s1), (by rw [hx4]; exact (set_other4 (by decide)).trans s2), (by rw [hx4]; exact (set_other4 (by decide)).trans s3), (by rw [hx4]; exact (set_other4 (by decide)).trans s4), (by rw [hx4]; exact set_same4 _ s5), (by rw [hx4]; exact (set_other4 (by decide)).trans s6), (by rw [hx4]; exact (set_other4 (by decide)).trans s7), (fun o => by rw [hx4]; simpa using sz o), (oX.cell (by show w.heap.size + 1 < _; omega) (by show w.heap.size + 1 ≠ _; omega)).trans q0, (oX.cell (by show w.heap.size + 1 < _; omega) (by show w.heap.size + 1 ≠ _; omega)).trans q1, (oX.cell (by show w.heap.size + 1 < _; omega) (by show w.heap.size + 1 ≠ _; omega)).trans q2, (oX.cell (by show w.heap.size + 1 < _; omega) (by show w.heap.size + 1 ≠ _; omega)).trans q3, (oX.cell (by show w.heap.size + 1 < _; omega) (by show w.heap.size + 1 ≠ _; omega)).trans q4, (oX.cell (by show w.heap.size + 1 < _; omega) (by show w.heap.size + 1 ≠ _; omega)).trans q5, (oX.cell (by show w.heap.size + 1 < _; omega) (by show w.heap.size + 1 ≠ _; omega)).trans q6, (oX.cell (by show w.heap.size + 1 < _; omega) (by show w.heap.size + 1 ≠ _; omega)).trans q7, fun o => (oX.frozen (by show w.heap.size + 1 < _; omega) (by show w.heap.size + 1 ≠ _; omega)).trans (qz o), (oX.cell (by exact z4) (by show fb ≠ _; omega)).trans f0, fg4.onlyO (OnlyO.of_only oX) (fun g hg e => by have := (fg4.own hg).1; injection e with e; omega), (below_two hbw hb5).trans (oX.below (Nat.le_refl _) (by omega)), of, Nat.lt_of_lt_of_le z4 oX.size⟩
  clear hx4 oX s0 q0 s1 q1 s2 q2 s3 q3 s4 q4 s5 q5 s6 q6 s7 q7 sz qz f0 fg4 hb4 hb5 hbP hbw fg hg0 hg1 hcg
  have t0 := tim_num hn
  obtain ⟨sn0, ta0, tp0, cy0, sv0⟩ := pok_more hp
  have r1 : IntKind.i64.wrap (now - sn) = now - sn := by rw [IntKind.wrap_i64]; omega
  obtain ⟨B, hB⟩ : ∃ B : Bool, decide (mt = 0 ∨ trip ≤ mt ∨ (sa = 4 ∧ 200000000 ≤ now - sn)) = B := ⟨_, rfl⟩
  have c0 := D.out.c0
  have c1 := D.out.c1
  have c2 := D.out.c2
  have c3 := D.out.c3
  have c4 := D.out.c4
  have c5 := D.out.c5
  have c6 := D.out.c6
  have c7 := D.out.c7
  have cz := D.out.cz
  go_cut [86] from 15 to 64 (fun s wd => s = .bool B ∧ x4 = wd)
  case first =>
    by_cases k1 : mt = 0
    · obtain rfl : B = true := by rw [← hB]; exact decide_eq_true (.inl k1)
      subst k1
      go_wp2
      go_meet
      first | exact ⟨rfl, rfl⟩ | (simp; done) | (simp; exact k1)
    by_cases k2 : trip ≤ mt
    · obtain rfl : B = true := by rw [← hB]; exact decide_eq_true (.inr (.inl k2))
      go_wp2
      go_meet
      first | exact ⟨rfl, rfl⟩ | (simp; done) | (simp; exact k1)
    by_cases k3 : sa = 4
    · by_cases k4 : 200000000 ≤ now - sn
      · obtain rfl : B = true := by rw [← hB]; exact decide_eq_true (.inr (.inr ⟨k3, k4⟩))
        subst k3
        go_wp2
        go_meet
        first | exact ⟨rfl, rfl⟩ | (simp; done) | (simp; exact k1)
      · obtain rfl : B = false := by rw [← hB]; exact decide_eq_false (fun h => by rcases h with h | h | h; exact k1 h; exact k2 h; exact k4 h.2)
        subst k3
        go_wp2
        go_meet
        first | exact ⟨rfl, rfl⟩ | (simp; done) | (simp; exact k1)
    · obtain rfl : B = false := by rw [← hB]; exact decide_eq_false (fun h => by rcases h with h | h | h; exact k1 h; exact k2 h; exact k3 h.1)
      go_wp2
      go_meet
      first | exact ⟨rfl, rfl⟩ | (simp; done) | (simp; exact k1)
  case rest =>
  obtain ⟨rfl, rfl⟩ := hcut
  go_upto_if 86 with fail
  obtain ⟨mt1, ta1, hA⟩ : ∃ mt1 ta1, obA now trip ⟨sa, cy, sn, tp, sv, mt, ta⟩ = ⟨sa, cy, sn, tp, sv, mt1, ta1⟩ := by
    unfold obA
    split
    · exact ⟨_, _, rfl⟩
    · exact ⟨_, _, rfl⟩
  go_cut [] from 1 to 0 (fun wd => OB w wd fb (some ⟨g, 0, none⟩) zs.length cg zs ⟨sa, cy, sn, tp, sv, mt1, ta1⟩)
  case first =>
    cases B
    · have e : (⟨sa, cy, sn, tp, sv, mt1, ta1⟩ : Pb) = ⟨sa, cy, sn, tp, sv, mt, ta⟩ := by rw [← hA]; unfold obA; exact if_neg (of_decide_eq_false hB)
      go_wp2
      go_meet
      rw [e]
      exact D.out
    · have e : (⟨sa, cy, sn, tp, sv, mt1, ta1⟩ : Pb) = ⟨sa, cy, sn, tp, sv, trip, now⟩ := by rw [← hA]; unfold obA; exact if_pos (of_decide_eq_true hB)
      go_wp2
      go_meet
      rw [e]
      exact (D.out.set_mt trip).set_ta now
  case rest =>
  have D1 : Hid (OB w wc fb (some ⟨g, 0, none⟩) zs.length cg zs ⟨sa, cy, sn, tp, sv, mt1, ta1⟩) := hcut
  clear hcut D c0 c1 c2 c3 c4 c5 c6 c7 cz
  have hmt : (0 ≤ mt1 ∧ mt1 ≤ 1000000000000000) ∧ (0 ≤ ta1 ∧ ta1 ≤ now) := by
    have m0 := tim_num (pok_fil hp).2
    have t9 : 1 ≤ trip ∧ trip ≤ 1000000000000000 := by
      unfold inP at ht
      simp only [Bool.and_eq_true, decide_eq_true_eq] at ht
      exact ht
    unfold obA at hA
    split at hA
    · injection hA with _ _ _ _ _ e1 e2
      omega
    · injection hA with _ _ _ _ _ e1 e2
      omega
  have hfz := push_ok HP.out
  rw [HZ.out] at hfz
  have b0 := best_num hfz
  obtain ⟨be, hbe⟩ : ∃ b, bestOf zs = b := ⟨_, rfl⟩
  rw [hbe] at b0
  have HBE : Hid (bestOf zs = be) := hbe
  have hf0 := D1.out.f0
  go_upto_region 12 with (first
    | (go_at_call 53; refine (specBest_any cg (fv_smpO D1.out.fv).2 (Nat.le_refl _)).mono ?_; rintro e wB ⟨rfl, hbB⟩; rw [HBE.out]; have D2 : Hid (OB w wB fb (some ⟨g, 0, none⟩) zs.length cg zs ⟨sa, cy, sn, tp, sv, mt1, ta1⟩) := D1.out.next hbB))
  have y0 : bytesOf be mt1 = be * mt1 / 1000000000 := bytes_in b0.1 b0.2 hmt.1.1 hmt.1.2
  obtain ⟨yb, hyb⟩ : ∃ y, bytesOf be mt1 = y := ⟨_, rfl⟩
  have HY : Hid (∀ w : World, Calls Try.prog 97 #[.int .i64 be, .int .i64 mt1] w fun e w' => e = .returned (.int .i64 yb) ∧ w' = w) := fun w => by rw [← hyb]; exact specBytes_any be mt1 w
  have e1 : IntKind.i64.wrap (5 * tp) = 5 * tp := by rw [IntKind.wrap_i64]; omega
  have e2 := tdiv10 (x := 5 * tp) (by omega) 4
  have e3 : IntKind.i64.wrap (5 * tp / 4) = 5 * tp / 4 := by rw [IntKind.wrap_i64]; omega
  have e4 : IntKind.i64.wrap (sv + 1) = sv + 1 := by rw [IntKind.wrap_i64]; omega
  have e5 : IntKind.i64.wrap (now - now) = 0 := by rw [IntKind.wrap_i64]; omega
  have e6 : IntKind.i64.wrap (now - ta1) = now - ta1 := by rw [IntKind.wrap_i64]; omega
  have e7 : IntKind.i64.wrap (cy + 1) = cy + 1 := by rw [IntKind.wrap_i64]; omega
  have e8 : (cy + 1).tmod 8 = (cy + 1) % 8 := Int.tmod_eq_emod_of_nonneg (by omega)
  have e9 : IntKind.i64.wrap ((cy + 1) % 8) = (cy + 1) % 8 := by rw [IntKind.wrap_i64]; omega
  clear hbB D1 hf0 y0 s0 s1 s2 s3 s4 s5 s6 s7 q0 q1 q2 q3 q4 q5 q6 q7 sz qz hb3
  have c0 : wB.cell? ⟨w.heap.size, 0, none⟩ = some (.int .i64 sa) := D2.out.c0
  have c1 : wB.cell? ⟨w.heap.size, 1, none⟩ = some (.int .i64 cy) := D2.out.c1
  have c2 : wB.cell? ⟨w.heap.size, 2, none⟩ = some (.int .i64 sn) := D2.out.c2
  have c3 : wB.cell? ⟨w.heap.size, 3, none⟩ = some (.int .i64 tp) := D2.out.c3
  have c4 : wB.cell? ⟨w.heap.size, 4, none⟩ = some (.int .i64 sv) := D2.out.c4
  have c5 : wB.cell? ⟨w.heap.size, 5, none⟩ = some (.slice (some ⟨g, 0, none⟩) zs.length cg) := D2.out.c5
  have c6 : wB.cell? ⟨w.heap.size, 6, none⟩ = some (.int .i64 mt1) := D2.out.c6
  have c7 : wB.cell? ⟨w.heap.size, 7, none⟩ = some (.int .i64 ta1) := D2.out.c7
  have cz := D2.out.cz
  obtain ⟨sa2, sn2, tp2, sv2, hB2⟩ : ∃ sa2 sn2 tp2 sv2, obB now be ⟨sa, cy, sn, tp, sv, mt1, ta1⟩ = (⟨sa2, cy, sn2, tp2, sv2, mt1, ta1⟩ : Pb) := by
    unfold obB
    split
    · split
      · exact ⟨_, _, _, _, rfl⟩
      · split
        · exact ⟨_, _, _, _, rfl⟩
        · exact ⟨_, _, _, _, rfl⟩
    · exact ⟨_, _, _, _, rfl⟩
  have hs2 : 0 ≤ sn2 ∧ sn2 ≤ now := by
    have q := obB_sn now be ⟨sa, cy, sn, tp, sv, mt1, ta1⟩
    rw [hB2] at q
    have q : sn2 = sn ∨ sn2 = now := q
    omega
  go_upto_if 95 with fail
  go_cut [] from 93 to 95 (fun wd => OB w wd fb (some ⟨g, 0, none⟩) zs.length cg zs ⟨sa2, cy, sn2, tp2, sv2, mt1, ta1⟩)
  case first =>
    by_cases k1 : sa = 1
    · subst k1
      by_cases k2 : 5 * tp / 4 < be
      · have e : (⟨sa2, cy, sn2, tp2, sv2, mt1, ta1⟩ : Pb) = (⟨1, cy, sn, be, 0, mt1, ta1⟩ : Pb) := by rw [← hB2]; unfold obB; exact (if_pos rfl).trans (if_pos k2)
        go_wp2
        go_meet
        rw [e]
        exact (D2.out.set_tp be).set_sv 0
      · by_cases k3 : min 3 (sv + 1) = 3
        · have e : (⟨sa2, cy, sn2, tp2, sv2, mt1, ta1⟩ : Pb) = (⟨2, cy, now, tp, 3, mt1, ta1⟩ : Pb) := by rw [← hB2]; unfold obB; exact (if_pos rfl).trans ((if_neg k2).trans (if_pos k3))
          go_wp2_with (first
            | (go_at_call 58; refine (min10_any 3 (sv + 1) _).mono ?_; rintro e wM ⟨rfl, rfl⟩; rw [k3]))
          go_meet
          rw [e]
          exact ((D2.out.set_sv 3).set_sa 2).set_sn now
        · have e : (⟨sa2, cy, sn2, tp2, sv2, mt1, ta1⟩ : Pb) = (⟨1, cy, sn, tp, min 3 (sv + 1), mt1, ta1⟩ : Pb) := by rw [← hB2]; unfold obB; exact (if_pos rfl).trans ((if_neg k2).trans (if_neg k3))
          obtain ⟨m3, hm3⟩ : ∃ m, min 3 (sv + 1) = m := ⟨_, rfl⟩
          rw [hm3] at k3 e
          go_wp2_with (first
            | (go_at_call 58; refine (min10_any 3 (sv + 1) _).mono ?_; rintro e wM ⟨rfl, rfl⟩; rw [hm3]))
          go_meet
          rw [e]
          exact D2.out.set_sv m3
    · have e : (⟨sa2, cy, sn2, tp2, sv2, mt1, ta1⟩ : Pb) = (⟨sa, cy, sn, tp, sv, mt1, ta1⟩ : Pb) := by rw [← hB2]; unfold obB; exact if_neg k1
      go_wp2
      go_meet
      rw [e]
      exact D2.out
  case rest =>
  have D3 : Hid (OB w wc fb (some ⟨g, 0, none⟩) zs.length cg zs ⟨sa2, cy, sn2, tp2, sv2, mt1, ta1⟩) := hcut
  clear hcut
  clear D2 e1 e2 e3 e4 c0 c1 c2 c3 c4 c5 c6 c7 cz
  have c0 : wc.cell? ⟨w.heap.size, 0, none⟩ = some (.int .i64 sa2) := D3.out.c0
  have c1 : wc.cell? ⟨w.heap.size, 1, none⟩ = some (.int .i64 cy) := D3.out.c1
  have c2 : wc.cell? ⟨w.heap.size, 2, none⟩ = some (.int .i64 sn2) := D3.out.c2
  have c3 : wc.cell? ⟨w.heap.size, 3, none⟩ = some (.int .i64 tp2) := D3.out.c3
  have c4 : wc.cell? ⟨w.heap.size, 4, none⟩ = some (.int .i64 sv2) := D3.out.c4
  have c5 : wc.cell? ⟨w.heap.size, 5, none⟩ = some (.slice (some ⟨g, 0, none⟩) zs.length cg) := D3.out.c5
  have c6 : wc.cell? ⟨w.heap.size, 6, none⟩ = some (.int .i64 mt1) := D3.out.c6
  have c7 : wc.cell? ⟨w.heap.size, 7, none⟩ = some (.int .i64 ta1) := D3.out.c7
  have cz := D3.out.cz
  obtain ⟨sa3, cy3, sn3, hD4⟩ : ∃ sa3 cy3 sn3, obC now be flight (⟨sa2, cy, sn2, tp2, sv2, mt1, ta1⟩ : Pb) = (⟨sa3, cy3, sn3, tp2, sv2, mt1, ta1⟩ : Pb) := by
    unfold obC
    split
    · exact ⟨_, _, _, rfl⟩
    · exact ⟨_, _, _, rfl⟩
  obtain ⟨B3, hB3⟩ : ∃ B : Bool, decide (sa2 = 2 ∧ flight ≤ yb) = B := ⟨_, rfl⟩
  go_upto_region 20 with (fail)
  go_cut [126] from 1 to 0 (fun s wd => s = .bool B3 ∧ wc = wd)
  case first =>
    by_cases k1 : sa2 = 2
    · by_cases k2 : flight ≤ yb
      · obtain rfl : B3 = true := by rw [← hB3]; exact decide_eq_true ⟨k1, k2⟩
        go_wp2_with (first
          | (go_at_call 97; refine (HY.out _).mono ?_; rintro e wM ⟨rfl, rfl⟩))
        go_meet
        first | exact ⟨rfl, rfl⟩ | (simp; done) | (simp; omega)
      · obtain rfl : B3 = false := by rw [← hB3]; exact decide_eq_false (fun h => k2 h.2)
        go_wp2_with (first
          | (go_at_call 97; refine (HY.out _).mono ?_; rintro e wM ⟨rfl, rfl⟩))
        go_meet
        first | exact ⟨rfl, rfl⟩ | (simp; done) | (simp; omega)
    · obtain rfl : B3 = false := by rw [← hB3]; exact decide_eq_false (fun h => k1 h.1)
      go_wp2_with (first
          | (go_at_call 97; refine (HY.out _).mono ?_; rintro e wM ⟨rfl, rfl⟩))
      go_meet
      first | exact ⟨rfl, rfl⟩ | (simp; done) | (simp; omega)
  case rest =>
  obtain ⟨rfl, rfl⟩ := hcut
  go_upto_if 126 with fail
  go_cut [] from 1 to 0 (fun wd => OB w wd fb (some ⟨g, 0, none⟩) zs.length cg zs ⟨sa3, cy3, sn3, tp2, sv2, mt1, ta1⟩)
  case first =>
    cases B3
    · have e : (⟨sa3, cy3, sn3, tp2, sv2, mt1, ta1⟩ : Pb) = (⟨sa2, cy, sn2, tp2, sv2, mt1, ta1⟩ : Pb) := by rw [← hD4]; unfold obC; rw [hyb]; exact if_neg (of_decide_eq_false hB3)
      go_wp2
      go_meet
      rw [e]
      exact D3.out
    · have e : (⟨sa3, cy3, sn3, tp2, sv2, mt1, ta1⟩ : Pb) = (⟨3, 0, now, tp2, sv2, mt1, ta1⟩ : Pb) := by rw [← hD4]; unfold obC; rw [hyb]; exact if_pos (of_decide_eq_true hB3)
      go_wp2
      go_meet
      rw [e]
      exact ((D3.out.set_sa 3).set_cy 0).set_sn now
  case rest =>
  have D4 : Hid (OB w wc fb (some ⟨g, 0, none⟩) zs.length cg zs ⟨sa3, cy3, sn3, tp2, sv2, mt1, ta1⟩) := hcut
  clear hcut hB3
  have bD4 : (0 ≤ sn3 ∧ sn3 ≤ now) ∧ (0 ≤ cy3 ∧ cy3 ≤ 7) := by
    have q := obC_sn now be flight ⟨sa2, cy, sn2, tp2, sv2, mt1, ta1⟩
    rw [hD4] at q
    have q : (sn3 = sn2 ∨ sn3 = now) ∧ (cy3 = cy ∨ cy3 = 0) := q
    omega
  clear D3 c0 c1 c2 c3 c4 c5 c6 c7 cz
  have c0 : wc.cell? ⟨w.heap.size, 0, none⟩ = some (.int .i64 sa3) := D4.out.c0
  have c1 : wc.cell? ⟨w.heap.size, 1, none⟩ = some (.int .i64 cy3) := D4.out.c1
  have c2 : wc.cell? ⟨w.heap.size, 2, none⟩ = some (.int .i64 sn3) := D4.out.c2
  have c3 : wc.cell? ⟨w.heap.size, 3, none⟩ = some (.int .i64 tp2) := D4.out.c3
  have c4 : wc.cell? ⟨w.heap.size, 4, none⟩ = some (.int .i64 sv2) := D4.out.c4
  have c5 : wc.cell? ⟨w.heap.size, 5, none⟩ = some (.slice (some ⟨g, 0, none⟩) zs.length cg) := D4.out.c5
  have c6 : wc.cell? ⟨w.heap.size, 6, none⟩ = some (.int .i64 mt1) := D4.out.c6
  have c7 : wc.cell? ⟨w.heap.size, 7, none⟩ = some (.int .i64 ta1) := D4.out.c7
  have cz := D4.out.cz
  have r3 : IntKind.i64.wrap (now - sn3) = now - sn3 := by rw [IntKind.wrap_i64]; omega
  have e7 : IntKind.i64.wrap (cy3 + 1) = cy3 + 1 := by rw [IntKind.wrap_i64]; omega
  have e8 : (cy3 + 1).tmod 8 = (cy3 + 1) % 8 := Int.tmod_eq_emod_of_nonneg (by omega)
  have e9 : IntKind.i64.wrap ((cy3 + 1) % 8) = (cy3 + 1) % 8 := by rw [IntKind.wrap_i64]; omega
  obtain ⟨cy4, sn4, hD5⟩ : ∃ cy4 sn4, obD sa now (⟨sa3, cy3, sn3, tp2, sv2, mt1, ta1⟩ : Pb) = (⟨sa3, cy4, sn4, tp2, sv2, mt1, ta1⟩ : Pb) := by
    unfold obD
    split
    · exact ⟨_, _, rfl⟩
    · exact ⟨_, _, rfl⟩
  obtain ⟨B4, hB4⟩ : ∃ B : Bool, decide (sa = 3 ∧ mt1 ≤ now - sn3) = B := ⟨_, rfl⟩
  go_upto_region 24 with (fail)
  go_cut [141] from 1 to 0 (fun s wd => s = .bool B4 ∧ wc = wd)
  case first =>
    by_cases k1 : sa = 3
    · by_cases k2 : mt1 ≤ now - sn3
      · obtain rfl : B4 = true := by rw [← hB4]; exact decide_eq_true ⟨k1, k2⟩
        subst k1
        go_wp2
        go_meet
        first | exact ⟨rfl, rfl⟩ | (simp; done) | (simp; omega)
      · obtain rfl : B4 = false := by rw [← hB4]; exact decide_eq_false (fun h => k2 h.2)
        subst k1
        go_wp2
        go_meet
        first | exact ⟨rfl, rfl⟩ | (simp; done) | (simp; omega)
    · obtain rfl : B4 = false := by rw [← hB4]; exact decide_eq_false (fun h => k1 h.1)
      go_wp2
      go_meet
      first | exact ⟨rfl, rfl⟩ | (simp; done) | (simp; omega)
  case rest =>
  obtain ⟨rfl, rfl⟩ := hcut
  go_upto_if 141 with fail
  go_cut [] from 1 to 0 (fun wd => OB w wd fb (some ⟨g, 0, none⟩) zs.length cg zs ⟨sa3, cy4, sn4, tp2, sv2, mt1, ta1⟩)
  case first =>
    cases B4
    · have e : (⟨sa3, cy4, sn4, tp2, sv2, mt1, ta1⟩ : Pb) = (⟨sa3, cy3, sn3, tp2, sv2, mt1, ta1⟩ : Pb) := by rw [← hD5]; unfold obD; exact if_neg (of_decide_eq_false hB4)
      go_wp2
      go_meet
      rw [e]
      exact D4.out
    · have e : (⟨sa3, cy4, sn4, tp2, sv2, mt1, ta1⟩ : Pb) = (⟨sa3, (cy3 + 1) % 8, now, tp2, sv2, mt1, ta1⟩ : Pb) := by rw [← hD5]; unfold obD; exact if_pos (of_decide_eq_true hB4)
      go_wp2
      go_meet
      rw [e]
      exact (D4.out.set_cy ((cy3 + 1) % 8)).set_sn now
  case rest =>
  have D5 : Hid (OB w wc fb (some ⟨g, 0, none⟩) zs.length cg zs ⟨sa3, cy4, sn4, tp2, sv2, mt1, ta1⟩) := hcut
  clear hcut hB4
  have bD5 : 0 ≤ sn4 ∧ sn4 ≤ now := by
    have q := obD_sn sa now ⟨sa3, cy3, sn3, tp2, sv2, mt1, ta1⟩
    rw [hD5] at q
    have q : sn4 = sn3 ∨ sn4 = now := q
    omega
  clear D4 c0 c1 c2 c3 c4 c5 c6 c7 cz
  have c0 : wc.cell? ⟨w.heap.size, 0, none⟩ = some (.int .i64 sa3) := D5.out.c0
  have c1 : wc.cell? ⟨w.heap.size, 1, none⟩ = some (.int .i64 cy4) := D5.out.c1
  have c2 : wc.cell? ⟨w.heap.size, 2, none⟩ = some (.int .i64 sn4) := D5.out.c2
  have c3 : wc.cell? ⟨w.heap.size, 3, none⟩ = some (.int .i64 tp2) := D5.out.c3
  have c4 : wc.cell? ⟨w.heap.size, 4, none⟩ = some (.int .i64 sv2) := D5.out.c4
  have c5 : wc.cell? ⟨w.heap.size, 5, none⟩ = some (.slice (some ⟨g, 0, none⟩) zs.length cg) := D5.out.c5
  have c6 : wc.cell? ⟨w.heap.size, 6, none⟩ = some (.int .i64 mt1) := D5.out.c6
  have c7 : wc.cell? ⟨w.heap.size, 7, none⟩ = some (.int .i64 ta1) := D5.out.c7
  have cz := D5.out.cz
  clear e7 e8 e9 r3
  obtain ⟨sa5, sn5, hD6⟩ : ∃ sa5 sn5, obE sa now (⟨sa3, cy4, sn4, tp2, sv2, mt1, ta1⟩ : Pb) = (⟨sa5, cy4, sn5, tp2, sv2, mt1, ta1⟩ : Pb) := by
    unfold obE
    split
    · exact ⟨_, _, rfl⟩
    · exact ⟨_, _, rfl⟩
  obtain ⟨B5, hB5⟩ : ∃ B : Bool, decide (sa ≠ 4 ∧ 10000000000 ≤ now - ta1) = B := ⟨_, rfl⟩
  go_upto_region 27 with (fail)
  go_cut [157] from 1 to 0 (fun s wd => s = .bool B5 ∧ wc = wd)
  case first =>
    by_cases k1 : sa ≠ 4
    · by_cases k2 : 10000000000 ≤ now - ta1
      · obtain rfl : B5 = true := by rw [← hB5]; exact decide_eq_true ⟨k1, k2⟩
        go_wp2
        go_meet
        first | exact ⟨rfl, rfl⟩ | (simp; done) | (simp; omega)
      · obtain rfl : B5 = false := by rw [← hB5]; exact decide_eq_false (fun h => k2 h.2)
        go_wp2
        go_meet
        first | exact ⟨rfl, rfl⟩ | (simp; done) | (simp; omega)
    · obtain rfl : B5 = false := by rw [← hB5]; exact decide_eq_false (fun h => k1 h.1)
      go_wp2
      go_meet
      first | exact ⟨rfl, rfl⟩ | (simp; done) | (simp; omega)
  case rest =>
  obtain ⟨rfl, rfl⟩ := hcut
  go_upto_if 157 with fail
  go_cut [] from 1 to 0 (fun wd => OB w wd fb (some ⟨g, 0, none⟩) zs.length cg zs ⟨sa5, cy4, sn5, tp2, sv2, mt1, ta1⟩)
  case first =>
    cases B5
    · have e : (⟨sa5, cy4, sn5, tp2, sv2, mt1, ta1⟩ : Pb) = (⟨sa3, cy4, sn4, tp2, sv2, mt1, ta1⟩ : Pb) := by rw [← hD6]; unfold obE; exact if_neg (of_decide_eq_false hB5)
      go_wp2
      go_meet
      rw [e]
      exact D5.out
    · have e : (⟨sa5, cy4, sn5, tp2, sv2, mt1, ta1⟩ : Pb) = (⟨4, cy4, now, tp2, sv2, mt1, ta1⟩ : Pb) := by rw [← hD6]; unfold obE; exact if_pos (of_decide_eq_true hB5)
      go_wp2
      go_meet
      rw [e]
      exact (D5.out.set_sa 4).set_sn now
  case rest =>
  have D6 : Hid (OB w wc fb (some ⟨g, 0, none⟩) zs.length cg zs ⟨sa5, cy4, sn5, tp2, sv2, mt1, ta1⟩) := hcut
  clear hcut hB5
  have bD6 : 0 ≤ sn5 ∧ sn5 ≤ now := by
    have q := obE_sn sa now ⟨sa3, cy4, sn4, tp2, sv2, mt1, ta1⟩
    rw [hD6] at q
    have q : sn5 = sn4 ∨ sn5 = now := q
    omega
  clear D5 c0 c1 c2 c3 c4 c5 c6 c7 cz
  have c0 : wc.cell? ⟨w.heap.size, 0, none⟩ = some (.int .i64 sa5) := D6.out.c0
  have c1 : wc.cell? ⟨w.heap.size, 1, none⟩ = some (.int .i64 cy4) := D6.out.c1
  have c2 : wc.cell? ⟨w.heap.size, 2, none⟩ = some (.int .i64 sn5) := D6.out.c2
  have c3 : wc.cell? ⟨w.heap.size, 3, none⟩ = some (.int .i64 tp2) := D6.out.c3
  have c4 : wc.cell? ⟨w.heap.size, 4, none⟩ = some (.int .i64 sv2) := D6.out.c4
  have c5 : wc.cell? ⟨w.heap.size, 5, none⟩ = some (.slice (some ⟨g, 0, none⟩) zs.length cg) := D6.out.c5
  have c6 : wc.cell? ⟨w.heap.size, 6, none⟩ = some (.int .i64 mt1) := D6.out.c6
  have c7 : wc.cell? ⟨w.heap.size, 7, none⟩ = some (.int .i64 ta1) := D6.out.c7
  have cz := D6.out.cz
  have r5 : IntKind.i64.wrap (now - sn5) = now - sn5 := by rw [IntKind.wrap_i64]; omega
  obtain ⟨sa6, cy6, sn6, hD7⟩ : ∃ sa6 cy6 sn6, obF sa now (⟨sa5, cy4, sn5, tp2, sv2, mt1, ta1⟩ : Pb) = (⟨sa6, cy6, sn6, tp2, sv2, mt1, ta1⟩ : Pb) := by
    unfold obF
    split
    · exact ⟨_, _, _, rfl⟩
    · exact ⟨_, _, _, rfl⟩
  obtain ⟨B6, hB6⟩ : ∃ B : Bool, decide (sa = 4 ∧ 200000000 ≤ now - sn5) = B := ⟨_, rfl⟩
  go_upto_region 30 with (fail)
  go_cut [169] from 1 to 0 (fun s wd => s = .bool B6 ∧ wc = wd)
  case first =>
    by_cases k1 : sa = 4
    · by_cases k2 : 200000000 ≤ now - sn5
      · obtain rfl : B6 = true := by rw [← hB6]; exact decide_eq_true ⟨k1, k2⟩
        subst k1
        go_wp2
        go_meet
        first | exact ⟨rfl, rfl⟩ | (simp; done) | (simp; omega)
      · obtain rfl : B6 = false := by rw [← hB6]; exact decide_eq_false (fun h => k2 h.2)
        subst k1
        go_wp2
        go_meet
        first | exact ⟨rfl, rfl⟩ | (simp; done) | (simp; omega)
    · obtain rfl : B6 = false := by rw [← hB6]; exact decide_eq_false (fun h => k1 h.1)
      go_wp2
      go_meet
      first | exact ⟨rfl, rfl⟩ | (simp; done) | (simp; omega)
  case rest =>
  obtain ⟨rfl, rfl⟩ := hcut
  go_upto_if 169 with fail
  go_cut [] from 1 to 0 (fun wd => OB w wd fb (some ⟨g, 0, none⟩) zs.length cg zs ⟨sa6, cy6, sn6, tp2, sv2, mt1, ta1⟩)
  case first =>
    cases B6
    · have e : (⟨sa6, cy6, sn6, tp2, sv2, mt1, ta1⟩ : Pb) = (⟨sa5, cy4, sn5, tp2, sv2, mt1, ta1⟩ : Pb) := by rw [← hD7]; unfold obF; exact if_neg (of_decide_eq_false hB6)
      go_wp2
      go_meet
      rw [e]
      exact D6.out
    · have e : (⟨sa6, cy6, sn6, tp2, sv2, mt1, ta1⟩ : Pb) = (⟨3, 0, now, tp2, sv2, mt1, ta1⟩ : Pb) := by rw [← hD7]; unfold obF; exact if_pos (of_decide_eq_true hB6)
      go_wp2
      go_meet
      rw [e]
      exact ((D6.out.set_sa 3).set_cy 0).set_sn now
  case rest =>
  have D7 : Hid (OB w wc fb (some ⟨g, 0, none⟩) zs.length cg zs ⟨sa6, cy6, sn6, tp2, sv2, mt1, ta1⟩) := hcut
  clear hcut hB6
  clear D6 c0 c1 c2 c3 c4 c5 c6 c7 cz
  have c0 : wc.cell? ⟨w.heap.size, 0, none⟩ = some (.int .i64 sa6) := D7.out.c0
  have c1 : wc.cell? ⟨w.heap.size, 1, none⟩ = some (.int .i64 cy6) := D7.out.c1
  have c2 : wc.cell? ⟨w.heap.size, 2, none⟩ = some (.int .i64 sn6) := D7.out.c2
  have c3 : wc.cell? ⟨w.heap.size, 3, none⟩ = some (.int .i64 tp2) := D7.out.c3
  have c4 : wc.cell? ⟨w.heap.size, 4, none⟩ = some (.int .i64 sv2) := D7.out.c4
  have c5 : wc.cell? ⟨w.heap.size, 5, none⟩ = some (.slice (some ⟨g, 0, none⟩) zs.length cg) := D7.out.c5
  have c6 : wc.cell? ⟨w.heap.size, 6, none⟩ = some (.int .i64 mt1) := D7.out.c6
  have c7 : wc.cell? ⟨w.heap.size, 7, none⟩ = some (.int .i64 ta1) := D7.out.c7
  have cz := D7.out.cz
  have HO : Hid (obs now (bestOf zs) trip flight ⟨sa, cy, sn, tp, sv, mt, ta⟩ = (⟨sa6, cy6, sn6, tp2, sv2, mt1, ta1⟩ : Pb)) := by
    show _ = _
    unfold obs
    rw [hA, hbe, hB2, hD4]
    show obF sa now (obE sa now (obD sa now _)) = _
    rw [hD5, hD6, hD7]
  clear hA hB2 hD4 hD5 hD6 hD7 HY HBE hbe hyb e5 e6 bD4 bD5 bD6 hs2 hmt hfz b0 r1 r5 sn0 ta0 tp0 cy0 sv0 t0 HP HZ hp hn hr ht hw h1 h2
  have v0 : wc.cell? ⟨w.heap.size + 1, 0, none⟩ = some (.int .i64 0) := D7.out.r0
  have v1 : wc.cell? ⟨w.heap.size + 1, 1, none⟩ = some (.int .i64 0) := D7.out.r1
  have v2 : wc.cell? ⟨w.heap.size + 1, 2, none⟩ = some (.int .i64 0) := D7.out.r2
  have v3 : wc.cell? ⟨w.heap.size + 1, 3, none⟩ = some (.int .i64 0) := D7.out.r3
  have v4 : wc.cell? ⟨w.heap.size + 1, 4, none⟩ = some (.int .i64 0) := D7.out.r4
  have v5 : wc.cell? ⟨w.heap.size + 1, 5, none⟩ = some (.slice none 0 0) := D7.out.r5
  have v6 : wc.cell? ⟨w.heap.size + 1, 6, none⟩ = some (.int .i64 0) := D7.out.r6
  have v7 : wc.cell? ⟨w.heap.size + 1, 7, none⟩ = some (.int .i64 0) := D7.out.r7
  have vz := D7.out.rz
  go_step
  go_step
  go_step
  go_step
  go_wp2
  obtain ⟨y, ey, cs, far, fz, sz, hbel, hon⟩ := over8 (.int .i64 sa6) (.int .i64 cy6) (.int .i64 sn6) (.int .i64 tp2) (.int .i64 sv2) (.slice (some ⟨g, 0, none⟩) zs.length cg) (.int .i64 mt1) (.int .i64 ta1) (w := wc) (g := w.heap.size + 1) v0 v1 v2 v3 v4 v5 v6 v7
  rw [← ey]
  refine bodyPost_ret (results_one rfl _ _ _ [.int .i64 sa6, .int .i64 cy6, .int .i64 sn6, .int .i64 tp2, .int .i64 sv2, .slice (some ⟨g, 0, none⟩) zs.length cg, .int .i64 mt1, .int .i64 ta1] rfl cs Try.underlying53 rfl (by kernel_rfl)) rfl ?_
  exact ⟨g, cg, by rw [HO.out], (D7.out.fv.onlyO (OnlyO.of_only hon) (fun g hg e => by have := (D7.out.fv.own hg).1; injection e with e; omega)).lower (by omega), D7.out.bel.trans (hbel _ (by omega))⟩
end Go.Proofs.Ytiibafphgjlffae
