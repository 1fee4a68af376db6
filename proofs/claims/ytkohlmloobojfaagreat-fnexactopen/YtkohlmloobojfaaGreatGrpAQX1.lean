/- Lemmas on the way, of several texts: SpecEng, SpecPlc3, SpecPlc4. -/
import Derived.Test.YtkohlmloobojfaaGreatGrpAB
import Derived.Test.YtkohlmloobojfaaGreatGrpAQ
import Derived.Deep.QuietTactic
import Derived.BigQuiet
import Derived.Test.YtkohlmloobojfaaGreatGrpAC
namespace Go.Proofs.YtkohlmloobojfaaGreat
open Go.ChangeShapes Go.WideShapes Go.ChangeAt Go.RowKit
set_option maxRecDepth 100000
set_option linter.unusedVariables false
set_option linter.unusedSimpArgs false
theorem flK_bd2 {K : List Kn} (h : ∀ c ∈ K, 0 ≤ c.fl ∧ c.fl ≤ 1000000000) (hl : K.length ≤ 40) : 0 ≤ flK K ∧ flK K ≤ 1000000000 * 40 := by
  have := flK_bd h
  omega
set_option maxHeartbeats 8000000 in
theorem specEng_go {w : World} (now nx : Int) {aT aO aP aL aK : Option Addr} (cT cO cP cL cK : Nat) {T O P : List Q4} {L : List F8} {K : List Kn} (hT : Quad w.heap.size w aT T) (hO : Quad w.heap.size w aO O) (hP : Quad w.heap.size w aP P) (hL : Fls w.heap.size w aL L) (hK : Kls w.heap.size w aK K) (mT : T.length ≤ 1048576) (mL : L.length ≤ 1048576) (mK : K.length ≤ 1048576) (sK : ∀ c ∈ K, c.xs.length ≤ maxLen) (h0 : timeB now = true) (h1 : lendB T O P = true) (h2 : atOf O = now) (h3 : ¬ ((L.length : Int) < 1)) (h4 : ¬ (10 < (L.length : Int))) (h5 : ¬ (40 < (K.length : Int))) (h6 : inQ 0 nx 1000001 = true) :
    Calls Tryz.prog 23 #[engV now aT T.length cT aO O.length cO aP P.length cP aL L.length cL aK K.length cK nx] w fun e w' => e = .returned (.bool (engB now nx T O P L K)) ∧ Below w.heap.size w w' := by
  obtain ⟨v, hv⟩ : ∃ v, v = w.alloc (.cells #[.int .i64 now, .slice aT T.length cT, .slice aO O.length cO, .slice aP P.length cP, .slice aL L.length cL, .slice aK K.length cK, .int .i64 nx] 38) := ⟨_, rfl⟩
  have nb : Below w.heap.size w v := by rw [hv]; go_grown
  have L0 : Lay v w.heap.size [.int .i64 now, .slice aT T.length cT, .slice aO O.length cO, .slice aP P.length cP, .slice aL L.length cL, .slice aK K.length cK, .int .i64 nx] := by rw [hv]; exact lay_new [.int .i64 now, .slice aT T.length cT, .slice aO O.length cO, .slice aP P.length cP, .slice aL L.length cL, .slice aK K.length cK, .int .i64 nx] _ rfl
  have hlo := (lend_of h1).lo
  have hl0 := (lend_of h1).tree.l0
  have h0O : 0 < O.length := by omega
  have h0O' : (0 : Int) < (O.length : Int) := by omega
  clear hlo hl0
  obtain ⟨A, hA⟩ : ∃ A, O[0].2.2.2 = A := ⟨_, rfl⟩
  have HA : Hid (atOf O = A) := (atOf_at h0O).trans hA
  rw [HA.out] at h2
  obtain ⟨bo, oo, hao, hbo, -, -, -, qA⟩ := hO.at nb 0 h0O
  rw [hA, Nat.zero_mul, Nat.add_zero] at qA
  subst hao
  clear hA
  subst h2
  obtain ⟨j0, hj, jz0, jz1, jz2⟩ := info_parts info_i64
  have nL1 : 1 ≤ L.length := by omega
  have nL2 : L.length ≤ 10 := by omega
  have nK1 : K.length ≤ 40 := by omega
  go_enter Tryz.func23, Tryz.ntmps23
  go_upto_region 1 with (fail)
  rw [← hv]
  clear hv
  have HS : Hid (∀ x, Below v.heap.size v x → x.cell? ⟨w.heap.size, 0, none⟩ = some (.int .i64 A) ∧ x.cell? ⟨w.heap.size, 1, none⟩ = some (.slice aT T.length cT) ∧ x.cell? ⟨w.heap.size, 2, none⟩ = some (.slice (some ⟨bo, oo, none⟩) O.length cO) ∧ x.cell? ⟨w.heap.size, 3, none⟩ = some (.slice aP P.length cP) ∧ x.cell? ⟨w.heap.size, 4, none⟩ = some (.slice aL L.length cL) ∧ x.cell? ⟨w.heap.size, 5, none⟩ = some (.slice aK K.length cK) ∧ x.cell? ⟨w.heap.size, 6, none⟩ = some (.int .i64 nx) ∧ x.cell? ⟨bo, oo + 3, none⟩ = some (.int .i64 A)) := fun x hx => ⟨(L0.next hx).cell 0 _ rfl, (L0.next hx).cell 1 _ rfl, (L0.next hx).cell 2 _ rfl, (L0.next hx).cell 3 _ rfl, (L0.next hx).cell 4 _ rfl, (L0.next hx).cell 5 _ rfl, (L0.next hx).cell 6 _ rfl, (hx.cell (by exact Nat.lt_of_lt_of_le hbo nb.size)).trans qA⟩
  refine wp_region_held_drew (S := fun w' => w'.cell? ⟨w.heap.size, 0, none⟩ = some (.int .i64 A) ∧ w'.cell? ⟨w.heap.size, 1, none⟩ = some (.slice aT T.length cT) ∧ w'.cell? ⟨w.heap.size, 2, none⟩ = some (.slice (some ⟨bo, oo, none⟩) O.length cO) ∧ w'.cell? ⟨w.heap.size, 3, none⟩ = some (.slice aP P.length cP) ∧ w'.cell? ⟨w.heap.size, 4, none⟩ = some (.slice aL L.length cL) ∧ w'.cell? ⟨w.heap.size, 5, none⟩ = some (.slice aK K.length cK) ∧ w'.cell? ⟨w.heap.size, 6, none⟩ = some (.int .i64 nx) ∧ w'.cell? ⟨bo, oo + 3, none⟩ = some (.int .i64 A)) (by kernel_rfl) (HS.out _ (Below.refl _ _).drew) (fun hS => ?_)
  refine anyR 0 rfl ?_
  refine anyR 1 rfl ?_
  refine wpAnyH_ready (rs := [2]) (by kernel_rfl) (by simp) (AllReadyH.cons rfl (fun Kr hKr => ?_) AllReadyH.nil)
  go_simp
  (refine (sTime_is h0 _).mono ?_; rintro e w3 ⟨rfl, e3⟩; replace e3 := e3.symm; subst e3)
  refine hKr.out _ _ (by assumption) (fun _ => ?_)
  try simp only [nrm]
  refine anyR 3 rfl ?_
  refine anyR 4 rfl ?_
  refine anyR 5 rfl ?_
  refine anyR 6 rfl ?_
  refine wpAnyH_ready (rs := [7]) (by kernel_rfl) (by simp) (AllReadyH.cons rfl (fun Kr hKr => ?_) AllReadyH.nil)
  go_simp
  (refine (specLendOk_is cT cO cP h1 (hT.here (nb.drew)) (hO.here (nb.drew)) (hP.here (nb.drew))).mono ?_; rintro e w5 ⟨rfl, hb5⟩; have hb5 := undrewE hb5; have hS5 := HS.out _ hb5)
  refine hKr.out _ _ (by assumption) (fun _ => ?_)
  try simp only [nrm]
  refine anyR 8 rfl ?_
  refine anyR 9 rfl ?_
  refine anyR 10 rfl ?_
  refine anyR 11 rfl ?_
  refine anyR 12 rfl ?_
  refine anyR 13 rfl ?_
  refine anyR 14 rfl ?_
  refine anyR 15 rfl ?_
  refine anyR 16 rfl ?_
  refine anyR 17 rfl ?_
  refine anyR 18 rfl ?_
  refine anyR 19 rfl ?_
  refine anyR 20 rfl ?_
  refine anyR 21 rfl ?_
  refine anyR 22 rfl ?_
  refine anyR 23 rfl ?_
  refine anyR 24 rfl ?_
  refine anyR 25 rfl ?_
  refine anyR 26 rfl ?_
  refine anyR 27 rfl ?_
  refine anyR 28 rfl ?_
  refine anyR 29 rfl ?_
  refine anyR 30 rfl ?_
  refine anyR 31 rfl ?_
  refine anyR 32 rfl ?_
  refine anyR 33 rfl ?_
  refine anyR 34 rfl ?_
  refine anyR 35 rfl ?_
  refine anyR 36 rfl ?_
  refine anyR 37 rfl ?_
  refine anyR 38 rfl ?_
  refine anyR 39 rfl ?_
  refine anyR 40 rfl ?_
  refine anyR 41 rfl ?_
  refine wpAnyH_ready (rs := [42]) (by kernel_rfl) (by simp) (AllReadyH.cons rfl (fun Kr hKr => ?_) AllReadyH.nil)
  go_simp
  (refine (inQ_is h6 _).mono ?_; rintro e w3 ⟨rfl, e3⟩; replace e3 := e3.symm; subst e3)
  refine hKr.out _ _ (by assumption) (fun _ => ?_)
  try simp only [nrm]
  refine anyR 43 rfl ?_
  refine anyR 44 rfl ?_
  refine wpAnyH_done (by kernel_rfl) ?_ _
  go_wp2
  have L2 := L0.next hb5
  have bw5 := below_two nb hb5
  have H1 : Hid (lendB T O P = true) := h1
  clear hS5 HS L0 nb hb5 qA h0O h0O' h3 h4 h5
  have hKi : (K.length : Int) ≤ 40 := by omega
  have hLi : (L.length : Int) ≤ 10 := by omega
  have zL : w.heap.size < w5.heap.size := L2.lt
  go_loopw [3] (fun i wr => ∃ k : Nat, i = .int .i64 k ∧ k ≤ K.length ∧ Hid (∀ j (h : j < K.length), j < k → conB T L.length K[j] = true) ∧ Hid (∀ j (h : j < K.length) (h' : j + 1 < K.length), j + 1 < k → K[j].id < K[j + 1].id) ∧ Below w5.heap.size w5 wr) (fun i _ => K.length - (intOf i).toNat)
  case atStart => exact ⟨0, rfl, by omega, (fun j h k => by omega), (fun j h h' k => by omega), Below.refl _ _⟩
  case round =>
    obtain ⟨k, rfl, hk, HC, HR, hbr⟩ := hrel
    have M := L2.next hbr
    have c5 : wr.cell? ⟨w.heap.size, 5, none⟩ = some (.slice aK K.length cK) := M.cell 5 _ rfl
    have hbw := below_two bw5 hbr
    by_cases hlt : k < K.length
    · have hlt' : (k : Int) < (K.length : Int) := by omega
      have hk0 : (0 : Int) ≤ (k : Int) := by omega
      obtain ⟨b, off, sa, sc, hak, hbl, d0, d13, sm⟩ := hK.at hbw k hlt
      subst hak
      obtain ⟨c, hc⟩ : ∃ c, K[k] = c := ⟨_, rfl⟩
      have HX : Hid (K[k] = c) := hc
      have hxs : c.xs.length ≤ maxLen := by rw [← hc]; exact sK _ (List.getElem_mem hlt)
      rw [hc] at d0 d13 sm
      clear hc
      have hblr : b < wr.heap.size := Nat.lt_of_lt_of_le hbl hbw.size
      cases h7 : conB T L.length c
      · have HE : Hid (engB A nx T O P L K = false) := eg_false (fun h => by have q := h.con k hlt; rw [HX.out, h7] at q; cases q)
        have HS : Hid (∀ x, Below wr.heap.size wr x → x.cell? ⟨w.heap.size, 0, none⟩ = some (.int .i64 A) ∧ x.cell? ⟨w.heap.size, 1, none⟩ = some (.slice aT T.length cT) ∧ x.cell? ⟨w.heap.size, 2, none⟩ = some (.slice (some ⟨bo, oo, none⟩) O.length cO) ∧ x.cell? ⟨w.heap.size, 3, none⟩ = some (.slice aP P.length cP) ∧ x.cell? ⟨w.heap.size, 4, none⟩ = some (.slice aL L.length cL) ∧ x.cell? ⟨w.heap.size, 5, none⟩ = some (.slice (some ⟨b, off, none⟩) K.length cK) ∧ x.cell? ⟨w.heap.size, 6, none⟩ = some (.int .i64 nx) ∧ x.cell? ⟨b, off + k * 14, none⟩ = some (.int .i64 c.id) ∧ x.cell? ⟨b, off + k * 14 + 1, none⟩ = some (.int .i64 c.lf) ∧ x.cell? ⟨b, off + k * 14 + 2, none⟩ = some (.int .i64 c.pl) ∧ x.cell? ⟨b, off + k * 14 + 3, none⟩ = some (.int .i64 c.k) ∧ x.cell? ⟨b, off + k * 14 + 4, none⟩ = some (.int .i64 c.wn) ∧ x.cell? ⟨b, off + k * 14 + 5, none⟩ = some (.int .i64 c.th) ∧ x.cell? ⟨b, off + k * 14 + 6, none⟩ = some (.int .i64 c.fl) ∧ x.cell? ⟨b, off + k * 14 + 7, none⟩ = some (.int .i64 c.ac) ∧ x.cell? ⟨b, off + k * 14 + 8, none⟩ = some (.int .i64 c.la) ∧ x.cell? ⟨b, off + k * 14 + 9, none⟩ = some (.int .i64 c.og) ∧ x.cell? ⟨b, off + k * 14 + 10, none⟩ = some (.int .i64 c.st) ∧ x.cell? ⟨b, off + k * 14 + 11, none⟩ = some (.int .i64 c.fr) ∧ x.cell? ⟨b, off + k * 14 + 12, none⟩ = some (.bool c.sl) ∧ x.cell? ⟨b, off + k * 14 + 13, none⟩ = some (.slice sa c.xs.length sc)) := fun x hx => ⟨(M.next hx).cell 0 _ rfl, (M.next hx).cell 1 _ rfl, (M.next hx).cell 2 _ rfl, (M.next hx).cell 3 _ rfl, (M.next hx).cell 4 _ rfl, (M.next hx).cell 5 _ rfl, (M.next hx).cell 6 _ rfl, (hx.cell (by exact hblr)).trans (d0 0 _ rfl), (hx.cell (by exact hblr)).trans (d0 1 _ rfl), (hx.cell (by exact hblr)).trans (d0 2 _ rfl), (hx.cell (by exact hblr)).trans (d0 3 _ rfl), (hx.cell (by exact hblr)).trans (d0 4 _ rfl), (hx.cell (by exact hblr)).trans (d0 5 _ rfl), (hx.cell (by exact hblr)).trans (d0 6 _ rfl), (hx.cell (by exact hblr)).trans (d0 7 _ rfl), (hx.cell (by exact hblr)).trans (d0 8 _ rfl), (hx.cell (by exact hblr)).trans (d0 9 _ rfl), (hx.cell (by exact hblr)).trans (d0 10 _ rfl), (hx.cell (by exact hblr)).trans (d0 11 _ rfl), (hx.cell (by exact hblr)).trans (d0 12 _ rfl), (hx.cell (by exact hblr)).trans d13⟩
        go_upto_region 6 with (fail)
        refine wp_region_held_drew (S := fun w' => w'.cell? ⟨w.heap.size, 0, none⟩ = some (.int .i64 A) ∧ w'.cell? ⟨w.heap.size, 1, none⟩ = some (.slice aT T.length cT) ∧ w'.cell? ⟨w.heap.size, 2, none⟩ = some (.slice (some ⟨bo, oo, none⟩) O.length cO) ∧ w'.cell? ⟨w.heap.size, 3, none⟩ = some (.slice aP P.length cP) ∧ w'.cell? ⟨w.heap.size, 4, none⟩ = some (.slice aL L.length cL) ∧ w'.cell? ⟨w.heap.size, 5, none⟩ = some (.slice (some ⟨b, off, none⟩) K.length cK) ∧ w'.cell? ⟨w.heap.size, 6, none⟩ = some (.int .i64 nx) ∧ w'.cell? ⟨b, off + k * 14, none⟩ = some (.int .i64 c.id) ∧ w'.cell? ⟨b, off + k * 14 + 1, none⟩ = some (.int .i64 c.lf) ∧ w'.cell? ⟨b, off + k * 14 + 2, none⟩ = some (.int .i64 c.pl) ∧ w'.cell? ⟨b, off + k * 14 + 3, none⟩ = some (.int .i64 c.k) ∧ w'.cell? ⟨b, off + k * 14 + 4, none⟩ = some (.int .i64 c.wn) ∧ w'.cell? ⟨b, off + k * 14 + 5, none⟩ = some (.int .i64 c.th) ∧ w'.cell? ⟨b, off + k * 14 + 6, none⟩ = some (.int .i64 c.fl) ∧ w'.cell? ⟨b, off + k * 14 + 7, none⟩ = some (.int .i64 c.ac) ∧ w'.cell? ⟨b, off + k * 14 + 8, none⟩ = some (.int .i64 c.la) ∧ w'.cell? ⟨b, off + k * 14 + 9, none⟩ = some (.int .i64 c.og) ∧ w'.cell? ⟨b, off + k * 14 + 10, none⟩ = some (.int .i64 c.st) ∧ w'.cell? ⟨b, off + k * 14 + 11, none⟩ = some (.int .i64 c.fr) ∧ w'.cell? ⟨b, off + k * 14 + 12, none⟩ = some (.bool c.sl) ∧ w'.cell? ⟨b, off + k * 14 + 13, none⟩ = some (.slice sa c.xs.length sc)) (by kernel_rfl) (HS.out _ (Below.refl _ _).drew) (fun hS => ?_)
        refine anyR 0 rfl ?_
        refine anyR 1 rfl ?_
        refine anyR 2 rfl ?_
        refine anyR 3 rfl ?_
        refine anyR 4 rfl ?_
        refine anyR 5 rfl ?_
        refine wpAnyH_ready (rs := [6]) (by kernel_rfl) (by simp) (AllReadyH.cons rfl (fun Kr hKr => ?_) AllReadyH.nil)
        go_simp
        (refine (specConn_any (nL := L.length) A nx c (hT.here (hbw.drew)) mT mL ((sm.up hbw.size).here (Below.refl _ _).drew) hxs).mono ?_; rw [h7]; rintro e w7 ⟨rfl, hb7⟩; have hb7 := undrewE hb7; have hS7 := HS.out _ hb7)
        refine hKr.out _ _ (by assumption) (fun _ => ?_)
        try simp only [nrm]
        refine anyR 7 rfl ?_
        refine anyR 8 rfl ?_
        refine anyS 9 rfl ?_
        refine anyS 10 rfl ?_
        refine anyS 11 rfl ?_
        refine anyS 12 rfl ?_
        refine anyS 13 rfl ?_
        refine anyS 14 rfl ?_
        refine anyS 15 rfl ?_
        refine anyS 16 rfl ?_
        refine anyS 17 rfl ?_
        refine anyS 18 rfl ?_
        refine anyS 19 rfl ?_
        refine anyS 20 rfl ?_
        refine anyS 21 rfl ?_
        refine anyS 22 rfl ?_
        refine anyS 23 rfl ?_
        refine anyS 24 rfl ?_
        refine anyS 25 rfl ?_
        refine anyS 26 rfl ?_
        refine anyR 27 rfl ?_
        refine wpAnyH_done (by kernel_rfl) ?_ _
        go_wp2
        go_ret
        exact ⟨retC HE.out.symm, below_two hbw hb7⟩
      have HC' : Hid (∀ j (h : j < K.length), j < k + 1 → conB T L.length K[j] = true) := fun j hj hjk => by
        by_cases e : j = k
        · subst e; rw [HX.out]; exact h7
        · exact HC.out j hj (by omega)
      by_cases hz : k = 0
      · subst hz
        have hz0 : ¬ ((0 : Int) < ((0 : Nat) : Int)) := by omega
        have HS : Hid (∀ x, Below wr.heap.size wr x → x.cell? ⟨w.heap.size, 0, none⟩ = some (.int .i64 A) ∧ x.cell? ⟨w.heap.size, 1, none⟩ = some (.slice aT T.length cT) ∧ x.cell? ⟨w.heap.size, 2, none⟩ = some (.slice (some ⟨bo, oo, none⟩) O.length cO) ∧ x.cell? ⟨w.heap.size, 3, none⟩ = some (.slice aP P.length cP) ∧ x.cell? ⟨w.heap.size, 4, none⟩ = some (.slice aL L.length cL) ∧ x.cell? ⟨w.heap.size, 5, none⟩ = some (.slice (some ⟨b, off, none⟩) K.length cK) ∧ x.cell? ⟨w.heap.size, 6, none⟩ = some (.int .i64 nx) ∧ x.cell? ⟨b, off, none⟩ = some (.int .i64 c.id) ∧ x.cell? ⟨b, off + 1, none⟩ = some (.int .i64 c.lf) ∧ x.cell? ⟨b, off + 2, none⟩ = some (.int .i64 c.pl) ∧ x.cell? ⟨b, off + 3, none⟩ = some (.int .i64 c.k) ∧ x.cell? ⟨b, off + 4, none⟩ = some (.int .i64 c.wn) ∧ x.cell? ⟨b, off + 5, none⟩ = some (.int .i64 c.th) ∧ x.cell? ⟨b, off + 6, none⟩ = some (.int .i64 c.fl) ∧ x.cell? ⟨b, off + 7, none⟩ = some (.int .i64 c.ac) ∧ x.cell? ⟨b, off + 8, none⟩ = some (.int .i64 c.la) ∧ x.cell? ⟨b, off + 9, none⟩ = some (.int .i64 c.og) ∧ x.cell? ⟨b, off + 10, none⟩ = some (.int .i64 c.st) ∧ x.cell? ⟨b, off + 11, none⟩ = some (.int .i64 c.fr) ∧ x.cell? ⟨b, off + 12, none⟩ = some (.bool c.sl) ∧ x.cell? ⟨b, off + 13, none⟩ = some (.slice sa c.xs.length sc)) := fun x hx => ⟨(M.next hx).cell 0 _ rfl, (M.next hx).cell 1 _ rfl, (M.next hx).cell 2 _ rfl, (M.next hx).cell 3 _ rfl, (M.next hx).cell 4 _ rfl, (M.next hx).cell 5 _ rfl, (M.next hx).cell 6 _ rfl, (hx.cell (by exact hblr)).trans (by have q := d0 0 _ rfl; rw [Nat.zero_mul, Nat.add_zero] at q; exact q), (hx.cell (by exact hblr)).trans (by have q := d0 1 _ rfl; rw [Nat.zero_mul, Nat.add_zero] at q; exact q), (hx.cell (by exact hblr)).trans (by have q := d0 2 _ rfl; rw [Nat.zero_mul, Nat.add_zero] at q; exact q), (hx.cell (by exact hblr)).trans (by have q := d0 3 _ rfl; rw [Nat.zero_mul, Nat.add_zero] at q; exact q), (hx.cell (by exact hblr)).trans (by have q := d0 4 _ rfl; rw [Nat.zero_mul, Nat.add_zero] at q; exact q), (hx.cell (by exact hblr)).trans (by have q := d0 5 _ rfl; rw [Nat.zero_mul, Nat.add_zero] at q; exact q), (hx.cell (by exact hblr)).trans (by have q := d0 6 _ rfl; rw [Nat.zero_mul, Nat.add_zero] at q; exact q), (hx.cell (by exact hblr)).trans (by have q := d0 7 _ rfl; rw [Nat.zero_mul, Nat.add_zero] at q; exact q), (hx.cell (by exact hblr)).trans (by have q := d0 8 _ rfl; rw [Nat.zero_mul, Nat.add_zero] at q; exact q), (hx.cell (by exact hblr)).trans (by have q := d0 9 _ rfl; rw [Nat.zero_mul, Nat.add_zero] at q; exact q), (hx.cell (by exact hblr)).trans (by have q := d0 10 _ rfl; rw [Nat.zero_mul, Nat.add_zero] at q; exact q), (hx.cell (by exact hblr)).trans (by have q := d0 11 _ rfl; rw [Nat.zero_mul, Nat.add_zero] at q; exact q), (hx.cell (by exact hblr)).trans (by have q := d0 12 _ rfl; rw [Nat.zero_mul, Nat.add_zero] at q; exact q), (hx.cell (by exact hblr)).trans (by have q := d13; rw [Nat.zero_mul, Nat.add_zero] at q; exact q)⟩
        go_upto_region 6 with (fail)
        refine wp_region_held_drew (S := fun w' => w'.cell? ⟨w.heap.size, 0, none⟩ = some (.int .i64 A) ∧ w'.cell? ⟨w.heap.size, 1, none⟩ = some (.slice aT T.length cT) ∧ w'.cell? ⟨w.heap.size, 2, none⟩ = some (.slice (some ⟨bo, oo, none⟩) O.length cO) ∧ w'.cell? ⟨w.heap.size, 3, none⟩ = some (.slice aP P.length cP) ∧ w'.cell? ⟨w.heap.size, 4, none⟩ = some (.slice aL L.length cL) ∧ w'.cell? ⟨w.heap.size, 5, none⟩ = some (.slice (some ⟨b, off, none⟩) K.length cK) ∧ w'.cell? ⟨w.heap.size, 6, none⟩ = some (.int .i64 nx) ∧ w'.cell? ⟨b, off, none⟩ = some (.int .i64 c.id) ∧ w'.cell? ⟨b, off + 1, none⟩ = some (.int .i64 c.lf) ∧ w'.cell? ⟨b, off + 2, none⟩ = some (.int .i64 c.pl) ∧ w'.cell? ⟨b, off + 3, none⟩ = some (.int .i64 c.k) ∧ w'.cell? ⟨b, off + 4, none⟩ = some (.int .i64 c.wn) ∧ w'.cell? ⟨b, off + 5, none⟩ = some (.int .i64 c.th) ∧ w'.cell? ⟨b, off + 6, none⟩ = some (.int .i64 c.fl) ∧ w'.cell? ⟨b, off + 7, none⟩ = some (.int .i64 c.ac) ∧ w'.cell? ⟨b, off + 8, none⟩ = some (.int .i64 c.la) ∧ w'.cell? ⟨b, off + 9, none⟩ = some (.int .i64 c.og) ∧ w'.cell? ⟨b, off + 10, none⟩ = some (.int .i64 c.st) ∧ w'.cell? ⟨b, off + 11, none⟩ = some (.int .i64 c.fr) ∧ w'.cell? ⟨b, off + 12, none⟩ = some (.bool c.sl) ∧ w'.cell? ⟨b, off + 13, none⟩ = some (.slice sa c.xs.length sc)) (by kernel_rfl) (HS.out _ (Below.refl _ _).drew) (fun hS => ?_)
        refine anyR 0 rfl ?_
        refine anyR 1 rfl ?_
        refine anyR 2 rfl ?_
        refine anyR 3 rfl ?_
        refine anyR 4 rfl ?_
        refine anyR 5 rfl ?_
        refine wpAnyH_ready (rs := [6]) (by kernel_rfl) (by simp) (AllReadyH.cons rfl (fun Kr hKr => ?_) AllReadyH.nil)
        go_simp
        (refine (specConn_any (nL := L.length) A nx c (hT.here (hbw.drew)) mT mL ((sm.up hbw.size).here (Below.refl _ _).drew) hxs).mono ?_; rw [h7]; rintro e w7 ⟨rfl, hb7⟩; have hb7 := undrewE hb7; have hS7 := HS.out _ hb7)
        refine hKr.out _ _ (by assumption) (fun _ => ?_)
        try simp only [nrm]
        refine anyR 7 rfl ?_
        refine anyR 8 rfl ?_
        refine anyR 9 rfl ?_
        refine anyR 10 rfl ?_
        refine anyR 11 rfl ?_
        refine anyS 12 rfl ?_
        refine anyS 13 rfl ?_
        refine anyS 14 rfl ?_
        refine anyS 15 rfl ?_
        refine anyS 16 rfl ?_
        refine anyS 17 rfl ?_
        refine anyS 18 rfl ?_
        refine anyS 19 rfl ?_
        refine anyS 20 rfl ?_
        refine anyS 21 rfl ?_
        refine anyS 22 rfl ?_
        refine anyS 23 rfl ?_
        refine anyS 24 rfl ?_
        refine anyS 25 rfl ?_
        refine anyR 26 rfl ?_
        refine anyR 27 rfl ?_
        refine wpAnyH_done (by kernel_rfl) ?_ _
        go_wp2
        go_roundw
        case rel => exact ⟨1, by go_num, by omega, HC', (fun j h h' k => by omega), below_two hbr hb7⟩
        case measure => first | (simp [intOf]; done) | (simp [intOf]; omega)
      obtain ⟨l, hl⟩ : ∃ l, k = l + 1 := ⟨k - 1, by omega⟩
      have HL1 : Hid (k = l + 1) := hl
      have hl1 : IntKind.i64.wrap ((k : Int) - 1) = (l : Int) := by rw [IntKind.wrap_i64]; omega
      have hl0 : (0 : Int) ≤ (l : Int) := by omega
      have hl3 : (l : Int) < (K.length : Int) := by omega
      have hl4 : (0 : Int) < (k : Int) := by omega
      have hl4n : 0 < k := by omega
      have hlk : l < K.length := by omega
      clear hl hz
      obtain ⟨b', off', sa', sc', hak', _, f0, _, _⟩ := hK.at hbw l hlk
      injection hak' with hak'
      injection hak' with ek1 ek2
      subst ek1 ek2
      obtain ⟨z, hzz⟩ : ∃ z, K[l].id = z := ⟨_, rfl⟩
      have HZ : Hid (K[l].id = z) := hzz
      have f0 : wr.cell? ⟨b, off + l * 14, none⟩ = some (.int .i64 z) := by rw [← hzz]; exact f0 0 _ rfl
      clear hzz
      by_cases h8 : c.id ≤ z
      · have HE : Hid (engB A nx T O P L K = false) := eg_false (fun h => by have q := h.rise l hlk (by have := HL1.out; omega); have e1 : K[l + 1]'(by have := HL1.out; omega) = c := (by have e := HL1.out; subst e; exact HX.out); rw [e1, HZ.out] at q; omega)
        have HS : Hid (∀ x, Below wr.heap.size wr x → x.cell? ⟨w.heap.size, 0, none⟩ = some (.int .i64 A) ∧ x.cell? ⟨w.heap.size, 1, none⟩ = some (.slice aT T.length cT) ∧ x.cell? ⟨w.heap.size, 2, none⟩ = some (.slice (some ⟨bo, oo, none⟩) O.length cO) ∧ x.cell? ⟨w.heap.size, 3, none⟩ = some (.slice aP P.length cP) ∧ x.cell? ⟨w.heap.size, 4, none⟩ = some (.slice aL L.length cL) ∧ x.cell? ⟨w.heap.size, 5, none⟩ = some (.slice (some ⟨b, off, none⟩) K.length cK) ∧ x.cell? ⟨w.heap.size, 6, none⟩ = some (.int .i64 nx) ∧ x.cell? ⟨b, off + k * 14, none⟩ = some (.int .i64 c.id) ∧ x.cell? ⟨b, off + k * 14 + 1, none⟩ = some (.int .i64 c.lf) ∧ x.cell? ⟨b, off + k * 14 + 2, none⟩ = some (.int .i64 c.pl) ∧ x.cell? ⟨b, off + k * 14 + 3, none⟩ = some (.int .i64 c.k) ∧ x.cell? ⟨b, off + k * 14 + 4, none⟩ = some (.int .i64 c.wn) ∧ x.cell? ⟨b, off + k * 14 + 5, none⟩ = some (.int .i64 c.th) ∧ x.cell? ⟨b, off + k * 14 + 6, none⟩ = some (.int .i64 c.fl) ∧ x.cell? ⟨b, off + k * 14 + 7, none⟩ = some (.int .i64 c.ac) ∧ x.cell? ⟨b, off + k * 14 + 8, none⟩ = some (.int .i64 c.la) ∧ x.cell? ⟨b, off + k * 14 + 9, none⟩ = some (.int .i64 c.og) ∧ x.cell? ⟨b, off + k * 14 + 10, none⟩ = some (.int .i64 c.st) ∧ x.cell? ⟨b, off + k * 14 + 11, none⟩ = some (.int .i64 c.fr) ∧ x.cell? ⟨b, off + k * 14 + 12, none⟩ = some (.bool c.sl) ∧ x.cell? ⟨b, off + k * 14 + 13, none⟩ = some (.slice sa c.xs.length sc) ∧ x.cell? ⟨b, off + l * 14, none⟩ = some (.int .i64 z)) := fun x hx => ⟨(M.next hx).cell 0 _ rfl, (M.next hx).cell 1 _ rfl, (M.next hx).cell 2 _ rfl, (M.next hx).cell 3 _ rfl, (M.next hx).cell 4 _ rfl, (M.next hx).cell 5 _ rfl, (M.next hx).cell 6 _ rfl, (hx.cell (by exact hblr)).trans (d0 0 _ rfl), (hx.cell (by exact hblr)).trans (d0 1 _ rfl), (hx.cell (by exact hblr)).trans (d0 2 _ rfl), (hx.cell (by exact hblr)).trans (d0 3 _ rfl), (hx.cell (by exact hblr)).trans (d0 4 _ rfl), (hx.cell (by exact hblr)).trans (d0 5 _ rfl), (hx.cell (by exact hblr)).trans (d0 6 _ rfl), (hx.cell (by exact hblr)).trans (d0 7 _ rfl), (hx.cell (by exact hblr)).trans (d0 8 _ rfl), (hx.cell (by exact hblr)).trans (d0 9 _ rfl), (hx.cell (by exact hblr)).trans (d0 10 _ rfl), (hx.cell (by exact hblr)).trans (d0 11 _ rfl), (hx.cell (by exact hblr)).trans (d0 12 _ rfl), (hx.cell (by exact hblr)).trans d13, (hx.cell (by exact hblr)).trans f0⟩
        go_upto_region 6 with (fail)
        refine wp_region_held_drew (S := fun w' => w'.cell? ⟨w.heap.size, 0, none⟩ = some (.int .i64 A) ∧ w'.cell? ⟨w.heap.size, 1, none⟩ = some (.slice aT T.length cT) ∧ w'.cell? ⟨w.heap.size, 2, none⟩ = some (.slice (some ⟨bo, oo, none⟩) O.length cO) ∧ w'.cell? ⟨w.heap.size, 3, none⟩ = some (.slice aP P.length cP) ∧ w'.cell? ⟨w.heap.size, 4, none⟩ = some (.slice aL L.length cL) ∧ w'.cell? ⟨w.heap.size, 5, none⟩ = some (.slice (some ⟨b, off, none⟩) K.length cK) ∧ w'.cell? ⟨w.heap.size, 6, none⟩ = some (.int .i64 nx) ∧ w'.cell? ⟨b, off + k * 14, none⟩ = some (.int .i64 c.id) ∧ w'.cell? ⟨b, off + k * 14 + 1, none⟩ = some (.int .i64 c.lf) ∧ w'.cell? ⟨b, off + k * 14 + 2, none⟩ = some (.int .i64 c.pl) ∧ w'.cell? ⟨b, off + k * 14 + 3, none⟩ = some (.int .i64 c.k) ∧ w'.cell? ⟨b, off + k * 14 + 4, none⟩ = some (.int .i64 c.wn) ∧ w'.cell? ⟨b, off + k * 14 + 5, none⟩ = some (.int .i64 c.th) ∧ w'.cell? ⟨b, off + k * 14 + 6, none⟩ = some (.int .i64 c.fl) ∧ w'.cell? ⟨b, off + k * 14 + 7, none⟩ = some (.int .i64 c.ac) ∧ w'.cell? ⟨b, off + k * 14 + 8, none⟩ = some (.int .i64 c.la) ∧ w'.cell? ⟨b, off + k * 14 + 9, none⟩ = some (.int .i64 c.og) ∧ w'.cell? ⟨b, off + k * 14 + 10, none⟩ = some (.int .i64 c.st) ∧ w'.cell? ⟨b, off + k * 14 + 11, none⟩ = some (.int .i64 c.fr) ∧ w'.cell? ⟨b, off + k * 14 + 12, none⟩ = some (.bool c.sl) ∧ w'.cell? ⟨b, off + k * 14 + 13, none⟩ = some (.slice sa c.xs.length sc) ∧ w'.cell? ⟨b, off + l * 14, none⟩ = some (.int .i64 z)) (by kernel_rfl) (HS.out _ (Below.refl _ _).drew) (fun hS => ?_)
        refine anyR 0 rfl ?_
        refine anyR 1 rfl ?_
        refine anyR 2 rfl ?_
        refine anyR 3 rfl ?_
        refine anyR 4 rfl ?_
        refine anyR 5 rfl ?_
        refine wpAnyH_ready (rs := [6]) (by kernel_rfl) (by simp) (AllReadyH.cons rfl (fun Kr hKr => ?_) AllReadyH.nil)
        go_simp
        (refine (specConn_any (nL := L.length) A nx c (hT.here (hbw.drew)) mT mL ((sm.up hbw.size).here (Below.refl _ _).drew) hxs).mono ?_; rw [h7]; rintro e w7 ⟨rfl, hb7⟩; have hb7 := undrewE hb7; have hS7 := HS.out _ hb7)
        refine hKr.out _ _ (by assumption) (fun _ => ?_)
        try simp only [nrm]
        refine anyR 7 rfl ?_
        refine anyR 8 rfl ?_
        refine anyR 9 rfl ?_
        refine anyR 10 rfl ?_
        refine anyR 11 rfl ?_
        refine anyR 12 rfl ?_
        refine anyR 13 rfl ?_
        refine anyR 14 rfl ?_
        refine anyR 15 rfl ?_
        refine anyR 16 rfl ?_
        refine anyR 17 rfl ?_
        refine anyR 18 rfl ?_
        refine anyR 19 rfl ?_
        refine anyR 20 rfl ?_
        refine anyR 21 rfl ?_
        refine anyR 22 rfl ?_
        refine anyR 23 rfl ?_
        refine anyR 24 rfl ?_
        refine anyR 25 rfl ?_
        refine anyR 26 rfl ?_
        refine anyR 27 rfl ?_
        refine wpAnyH_done (by kernel_rfl) ?_ _
        go_wp2
        go_ret
        exact ⟨retC HE.out.symm, below_two hbw hb7⟩
      · have HR' : Hid (∀ j (h : j < K.length) (h' : j + 1 < K.length), j + 1 < k + 1 → K[j].id < K[j + 1].id) := fun j hj hj' hjk => by
          have e0 := HL1.out
          by_cases e : j = l
          · subst e
            have e1 : K[j + 1] = c := by subst e0; exact HX.out
            rw [e1, HZ.out]
            omega
          · exact HR.out j hj hj' (by omega)
        have HS : Hid (∀ x, Below wr.heap.size wr x → x.cell? ⟨w.heap.size, 0, none⟩ = some (.int .i64 A) ∧ x.cell? ⟨w.heap.size, 1, none⟩ = some (.slice aT T.length cT) ∧ x.cell? ⟨w.heap.size, 2, none⟩ = some (.slice (some ⟨bo, oo, none⟩) O.length cO) ∧ x.cell? ⟨w.heap.size, 3, none⟩ = some (.slice aP P.length cP) ∧ x.cell? ⟨w.heap.size, 4, none⟩ = some (.slice aL L.length cL) ∧ x.cell? ⟨w.heap.size, 5, none⟩ = some (.slice (some ⟨b, off, none⟩) K.length cK) ∧ x.cell? ⟨w.heap.size, 6, none⟩ = some (.int .i64 nx) ∧ x.cell? ⟨b, off + k * 14, none⟩ = some (.int .i64 c.id) ∧ x.cell? ⟨b, off + k * 14 + 1, none⟩ = some (.int .i64 c.lf) ∧ x.cell? ⟨b, off + k * 14 + 2, none⟩ = some (.int .i64 c.pl) ∧ x.cell? ⟨b, off + k * 14 + 3, none⟩ = some (.int .i64 c.k) ∧ x.cell? ⟨b, off + k * 14 + 4, none⟩ = some (.int .i64 c.wn) ∧ x.cell? ⟨b, off + k * 14 + 5, none⟩ = some (.int .i64 c.th) ∧ x.cell? ⟨b, off + k * 14 + 6, none⟩ = some (.int .i64 c.fl) ∧ x.cell? ⟨b, off + k * 14 + 7, none⟩ = some (.int .i64 c.ac) ∧ x.cell? ⟨b, off + k * 14 + 8, none⟩ = some (.int .i64 c.la) ∧ x.cell? ⟨b, off + k * 14 + 9, none⟩ = some (.int .i64 c.og) ∧ x.cell? ⟨b, off + k * 14 + 10, none⟩ = some (.int .i64 c.st) ∧ x.cell? ⟨b, off + k * 14 + 11, none⟩ = some (.int .i64 c.fr) ∧ x.cell? ⟨b, off + k * 14 + 12, none⟩ = some (.bool c.sl) ∧ x.cell? ⟨b, off + k * 14 + 13, none⟩ = some (.slice sa c.xs.length sc) ∧ x.cell? ⟨b, off + l * 14, none⟩ = some (.int .i64 z)) := fun x hx => ⟨(M.next hx).cell 0 _ rfl, (M.next hx).cell 1 _ rfl, (M.next hx).cell 2 _ rfl, (M.next hx).cell 3 _ rfl, (M.next hx).cell 4 _ rfl, (M.next hx).cell 5 _ rfl, (M.next hx).cell 6 _ rfl, (hx.cell (by exact hblr)).trans (d0 0 _ rfl), (hx.cell (by exact hblr)).trans (d0 1 _ rfl), (hx.cell (by exact hblr)).trans (d0 2 _ rfl), (hx.cell (by exact hblr)).trans (d0 3 _ rfl), (hx.cell (by exact hblr)).trans (d0 4 _ rfl), (hx.cell (by exact hblr)).trans (d0 5 _ rfl), (hx.cell (by exact hblr)).trans (d0 6 _ rfl), (hx.cell (by exact hblr)).trans (d0 7 _ rfl), (hx.cell (by exact hblr)).trans (d0 8 _ rfl), (hx.cell (by exact hblr)).trans (d0 9 _ rfl), (hx.cell (by exact hblr)).trans (d0 10 _ rfl), (hx.cell (by exact hblr)).trans (d0 11 _ rfl), (hx.cell (by exact hblr)).trans (d0 12 _ rfl), (hx.cell (by exact hblr)).trans d13, (hx.cell (by exact hblr)).trans f0⟩
        go_upto_region 6 with (fail)
        refine wp_region_held_drew (S := fun w' => w'.cell? ⟨w.heap.size, 0, none⟩ = some (.int .i64 A) ∧ w'.cell? ⟨w.heap.size, 1, none⟩ = some (.slice aT T.length cT) ∧ w'.cell? ⟨w.heap.size, 2, none⟩ = some (.slice (some ⟨bo, oo, none⟩) O.length cO) ∧ w'.cell? ⟨w.heap.size, 3, none⟩ = some (.slice aP P.length cP) ∧ w'.cell? ⟨w.heap.size, 4, none⟩ = some (.slice aL L.length cL) ∧ w'.cell? ⟨w.heap.size, 5, none⟩ = some (.slice (some ⟨b, off, none⟩) K.length cK) ∧ w'.cell? ⟨w.heap.size, 6, none⟩ = some (.int .i64 nx) ∧ w'.cell? ⟨b, off + k * 14, none⟩ = some (.int .i64 c.id) ∧ w'.cell? ⟨b, off + k * 14 + 1, none⟩ = some (.int .i64 c.lf) ∧ w'.cell? ⟨b, off + k * 14 + 2, none⟩ = some (.int .i64 c.pl) ∧ w'.cell? ⟨b, off + k * 14 + 3, none⟩ = some (.int .i64 c.k) ∧ w'.cell? ⟨b, off + k * 14 + 4, none⟩ = some (.int .i64 c.wn) ∧ w'.cell? ⟨b, off + k * 14 + 5, none⟩ = some (.int .i64 c.th) ∧ w'.cell? ⟨b, off + k * 14 + 6, none⟩ = some (.int .i64 c.fl) ∧ w'.cell? ⟨b, off + k * 14 + 7, none⟩ = some (.int .i64 c.ac) ∧ w'.cell? ⟨b, off + k * 14 + 8, none⟩ = some (.int .i64 c.la) ∧ w'.cell? ⟨b, off + k * 14 + 9, none⟩ = some (.int .i64 c.og) ∧ w'.cell? ⟨b, off + k * 14 + 10, none⟩ = some (.int .i64 c.st) ∧ w'.cell? ⟨b, off + k * 14 + 11, none⟩ = some (.int .i64 c.fr) ∧ w'.cell? ⟨b, off + k * 14 + 12, none⟩ = some (.bool c.sl) ∧ w'.cell? ⟨b, off + k * 14 + 13, none⟩ = some (.slice sa c.xs.length sc) ∧ w'.cell? ⟨b, off + l * 14, none⟩ = some (.int .i64 z)) (by kernel_rfl) (HS.out _ (Below.refl _ _).drew) (fun hS => ?_)
        refine anyR 0 rfl ?_
        refine anyR 1 rfl ?_
        refine anyR 2 rfl ?_
        refine anyR 3 rfl ?_
        refine anyR 4 rfl ?_
        refine anyR 5 rfl ?_
        refine wpAnyH_ready (rs := [6]) (by kernel_rfl) (by simp) (AllReadyH.cons rfl (fun Kr hKr => ?_) AllReadyH.nil)
        go_simp
        (refine (specConn_any (nL := L.length) A nx c (hT.here (hbw.drew)) mT mL ((sm.up hbw.size).here (Below.refl _ _).drew) hxs).mono ?_; rw [h7]; rintro e w7 ⟨rfl, hb7⟩; have hb7 := undrewE hb7; have hS7 := HS.out _ hb7)
        refine hKr.out _ _ (by assumption) (fun _ => ?_)
        try simp only [nrm]
        refine anyR 7 rfl ?_
        refine anyR 8 rfl ?_
        refine anyR 9 rfl ?_
        refine anyR 10 rfl ?_
        refine anyR 11 rfl ?_
        refine anyR 12 rfl ?_
        refine anyR 13 rfl ?_
        refine anyR 14 rfl ?_
        refine anyR 15 rfl ?_
        refine anyR 16 rfl ?_
        refine anyR 17 rfl ?_
        refine anyR 18 rfl ?_
        refine anyR 19 rfl ?_
        refine anyR 20 rfl ?_
        refine anyR 21 rfl ?_
        refine anyR 22 rfl ?_
        refine anyR 23 rfl ?_
        refine anyR 24 rfl ?_
        refine anyR 25 rfl ?_
        refine anyR 26 rfl ?_
        refine anyR 27 rfl ?_
        refine wpAnyH_done (by kernel_rfl) ?_ _
        go_wp2
        go_roundw
        case rel => exact ⟨k + 1, by go_num, by omega, HC', HR', below_two hbr hb7⟩
        case measure => first | (simp [intOf]; done) | (simp [intOf]; omega)
    · have e : k = K.length := by omega
      subst e
      have HC1 : Hid (∀ j (h : j < K.length), conB T L.length K[j] = true) := fun j h => HC.out j h h
      have HR1 : Hid (∀ j (h : j < K.length) (h' : j + 1 < K.length), K[j].id < K[j + 1].id) := fun j h h' => HR.out j h h' h'
      clear HC HR
      go_wp2
      have HC2 : Hid (∀ c ∈ K, 0 ≤ c.fl ∧ c.fl ≤ 1000000000) := fun c hc => by
        obtain ⟨i, hi, rfl⟩ := List.mem_iff_getElem.1 hc
        exact kc_fl (HC1.out i hi)
      clear c5 hlt
      go_loopw [4] (fun i wq => ∃ p : Nat, i = .int .i64 p ∧ p ≤ L.length ∧ Hid (∀ q (h : q < L.length), q < p → plB L[q].1 L[q].2.1 L[q].2.2 = true ∧ L[q].2.1 = flK (atP K q) ∧ L[q].2.2 = idsK (atP K q)) ∧ Below wr.heap.size wr wq) (fun i _ => L.length - (intOf i).toNat)
      case atStart => exact ⟨0, rfl, by omega, (fun j h k => by omega), Below.refl _ _⟩
      case round =>
        obtain ⟨p, rfl, hp, HP, hbr2⟩ := hrel
        have N := M.next hbr2
        have hbx := below_two hbw hbr2
        have c4 : wr.cell? ⟨w.heap.size, 4, none⟩ = some (.slice aL L.length cL) := N.cell 4 _ rfl
        by_cases hlt : p < L.length
        · have hlt' : (p : Int) < (L.length : Int) := by omega
          have hp0 : (0 : Int) ≤ (p : Int) := by omega
          obtain ⟨b, off, sa, sc, hal, hbl, d0, d1, d2, sm⟩ := hL.at hbx p hlt
          subst hal
          obtain ⟨wd, fl, xs, hx⟩ : ∃ wd fl xs, L[p] = (wd, fl, xs) := ⟨_, _, _, rfl⟩
          have HX : Hid (L[p] = (wd, fl, xs)) := hx
          rw [hx] at d0 d1 d2 sm
          clear hx
          simp only at d0 d1 d2 sm
          cases h8 : plB wd fl xs
          · have HE : Hid (engB A nx T O P L K = false) := eg_false (fun h => by have q := (h.pl p hlt).1; rw [HX.out] at q; simp only at q; rw [h8] at q; cases q)
            go_wp2_with (first | (go_at_call 69; refine (specPlaceOk_any sc (sm.up hbx.size)).mono ?_; rw [h8]; rintro e w8 ⟨rfl, hb8⟩))
            go_ret
            exact ⟨retC HE.out.symm, below_two hbx hb8⟩
          have hxl : xs.length ≤ 50 := (pl_yes h8).2.2.1
          have hfl : 0 ≤ fl ∧ fl ≤ 1000000000 := by
            have q := (pl_yes h8).2.1
            unfold w10B at q
            simp only [Bool.and_eq_true, decide_eq_true_eq] at q
            exact q
          have hbz : b < wr.heap.size := Nat.lt_of_lt_of_le hbl hbx.size
          go_wp2_with (first | (go_at_call 69; refine (specPlaceOk_any sc (sm.up hbx.size)).mono ?_; rw [h8]; rintro e w8 ⟨rfl, hb8⟩))
          have N8 := N.next hb8
          have hb8w := below_two hbx hb8
          have z8 := hb8w.size
          have e1 := (hb8.cell (p := ⟨b, off + p * 3 + 1, none⟩) hbz).trans d1
          have e2 := (hb8.cell (p := ⟨b, off + p * 3 + 2, none⟩) hbz).trans d2
          have hbz8 : b < w8.heap.size := Nat.lt_of_lt_of_le hbz hb8.size
          have sm8 := sm.mono (hb8.mono hbx.size)
          clear d0 d1 d2 c4 sm
          go_loopw [5, 6, 7] (fun s5 s6 s7 wq => ∃ k : Nat, s7 = .int .i64 k ∧ k ≤ K.length ∧ s6 = .int .i64 (flK (atP (K.take k) p)) ∧ Hid (wq.ownsRow w8.heap.size 2 1 s5 (atP (K.take k) p).length (flatI (idsK (atP (K.take k) p)))) ∧ Below w8.heap.size w8 wq) (fun _ _ s7 _ => K.length - (intOf s7).toNat)
          case atStart => exact ⟨0, rfl, by omega, rfl, own_none1 w8 w8.heap.size _ rfl (Nat.le_refl _) _, by go_grown⟩
          case round =>
            obtain ⟨k, rfl, hk, rfl, HO, hbr3⟩ := hrel
            have Q := N8.next hbr3
            have hby := below_two hb8w hbr3
            have zy := hby.size
            have z3 := hbr3.size
            have c5 : wr.cell? ⟨w.heap.size, 5, none⟩ = some (.slice aK K.length cK) := Q.cell 5 _ rfl
            obtain ⟨av, cv, hsv⟩ := own_slice HO.out
            subst hsv
            by_cases hltk : k < K.length
            · have hlt2 : (k : Int) < (K.length : Int) := by omega
              obtain ⟨bk, offk, sak, sck, hak, hbk, f0, -, -⟩ := hK k hltk
              subst hak
              obtain ⟨c, hc⟩ : ∃ c, K[k] = c := ⟨_, rfl⟩
              have HX2 : Hid (K[k] = c) := hc
              rw [hc] at f0
              clear hc
              have i0 : w.cell? ⟨bk, offk + k * 14, none⟩ = some (.int .i64 c.id) := f0 0 _ rfl
              have i2 : w.cell? ⟨bk, offk + k * 14 + 2, none⟩ = some (.int .i64 c.pl) := f0 2 _ rfl
              have i6 : w.cell? ⟨bk, offk + k * 14 + 6, none⟩ = some (.int .i64 c.fl) := f0 6 _ rfl
              have g0 := (hby.cell (p := ⟨bk, offk + k * 14, none⟩) hbk).trans i0
              have g2 := (hby.cell (p := ⟨bk, offk + k * 14 + 2, none⟩) hbk).trans i2
              have HI6 : Hid (w.cell? ⟨bk, offk + k * 14 + 6, none⟩ = some (.int .i64 c.fl)) := i6
              clear i0 i2 i6
              clear f0
              obtain ⟨s, hs⟩ : ∃ s, flK (atP (K.take k) p) = s := ⟨_, rfl⟩
              have HSS : Hid (flK (atP (K.take k) p) = s) := hs
              rw [hs]
              by_cases hpl : c.pl = p
              · have HA1 : Hid (atP (K.take (k + 1)) p = atP (K.take k) p ++ [c]) := by
                  have q := atP_yes hltk (p := (p : Int)) (by rw [HX2.out]; exact hpl)
                  rw [HX2.out] at q
                  exact q
                have HNL : Hid ((atP (K.take k) p).length ≤ 40) := by
                  have q := atP_le (K.take k) p
                  rw [List.length_take] at q
                  show _ ≤ 40
                  omega
                have hs1 : 0 ≤ s ∧ s ≤ 1000000000 * 40 := by
                  have q := flK_bd2 (K := atP (K.take k) p) (fun x hx => HC2.out x (List.mem_of_mem_take (List.mem_filter.1 hx).1)) HNL.out
                  rw [hs] at q
                  exact q
                have hc1 : 0 ≤ c.fl ∧ c.fl ≤ 1000000000 := by
                  have q := HC2.out K[k] (List.getElem_mem hltk)
                  rw [HX2.out] at q
                  exact q
                have hwr : IntKind.i64.wrap (s + c.fl) = s + c.fl := by rw [IntKind.wrap_i64]; omega
                clear hs hs1 hc1
                rw [hpl] at g2
                clear hpl
                have HOn := HO.out
                obtain ⟨n, hn⟩ : ∃ n, (atP (K.take k) p).length = n := ⟨_, rfl⟩
                have HN1 : Hid ((atP (K.take k) p).length = n) := hn
                have hn40 : n ≤ 40 := by rw [← hn]; exact HNL.out
                rw [hn] at HOn
                rw [hn]
                clear hn
                go_wp2_with (first
                  | (at_builtin; refine wpList_append_own _ rfl _ _ 56 rfl w8.heap.size 2 j0 _ 1 8 Tryz.underlying56 hj jz0 jz1 jz2 rfl (by decide) _ _ _ rfl (HOn.alloc _) ⟨wr.heap.size, 0, none⟩ 1 1 [.int .i64 c.id] rfl rfl ?c1 ?c2 ?c3 ?c4 ?c5 ?c6; rotate_left 5; intro v' w' hown' hgr hnil; have hb2 := below_app hbr3 hgr (fun g hg => (HOn.lt g hg).1); have r5 : w'.cell? ⟨w.heap.size, 5, none⟩ = some (.slice (some ⟨bk, offk, none⟩) K.length cK) := (N8.next hb2).cell 5 _ rfl; have r6 := ((below_two hb8w hb2).cell (p := ⟨bk, offk + k * 14 + 6, none⟩) hbk).trans HI6.out))
                case c1 => exact one_news (by go_simp)
                case c2 => exact flatI_one [c.id]
                case c3 => unfold maxLen; omega
                case c4 => omega
                case c5 => simp; omega
                go_roundw
                case rel => exact ⟨k + 1, by go_num, by omega, by rw [HA1.out, flK_append, HSS.out]; simp [flK], by rw [HA1.out, idsK_append, flatI_append, List.length_append, HN1.out]; exact hown', hb2⟩
                case measure => first | (simp [intOf]; done) | (simp [intOf]; omega)
              · have HA1 : Hid (atP (K.take (k + 1)) p = atP (K.take k) p) := atP_no hltk (p := (p : Int)) (by rw [HX2.out]; exact hpl)
                have hpl' : (c.pl == (p : Int)) = false := by simp [hpl]
                clear hs
                go_wp2
                go_roundw
                case rel => exact ⟨k + 1, by go_num, by omega, by rw [HA1.out, HSS.out], by rw [HA1.out]; exact HO.out, hbr3⟩
                case measure => first | (simp [intOf]; done) | (simp [intOf]; omega)
            · have e : k = K.length := by omega
              subst e
              have HO2 : Hid (wr.ownsRow w8.heap.size 2 1 (.slice av (atP (K.take K.length) p).length cv) (atP K p).length (flatI (idsK (atP K p)))) := by
                have q := HO.out
                rw [List.take_length] at q ⊢
                exact q
              rw [List.take_length]
              rw [List.take_length] at HO2
              clear HO
              have hys : Hid (ISmp wr.heap.size wr av (idsK (atP K p))) := by
                have q := HO2.out
                rw [show (atP K p).length = (idsK (atP K p)).length from (idsK_length _).symm] at q
                exact iv_smpE (own_ints q)
              clear HO2
              obtain ⟨ys, hyy⟩ : ∃ ys, idsK (atP K p) = ys := ⟨_, rfl⟩
              obtain ⟨n, hn⟩ : ∃ n, (atP K p).length = n := ⟨_, rfl⟩
              obtain ⟨s, hs⟩ : ∃ s, flK (atP K p) = s := ⟨_, rfl⟩
              have HYN : Hid (ys.length = n) := by rw [← hyy, idsK_length]; exact hn
              have HYS : Hid (idsK (atP K p) = ys) := hyy
              have HSS : Hid (flK (atP K p) = s) := hs
              rw [hyy] at hys
              rw [hn, hs]
              clear hyy hn hs
              have r4 : wr.cell? ⟨w.heap.size, 4, none⟩ = some (.slice (some ⟨b, off, none⟩) L.length cL) := Q.cell 4 _ rfl
              have r1 := (hbr3.cell (p := ⟨b, off + p * 3 + 1, none⟩) hbz8).trans e1
              have r2 := (hbr3.cell (p := ⟨b, off + p * 3 + 2, none⟩) hbz8).trans e2
              by_cases hn2 : n = xs.length
              rotate_left
              · have HE : Hid (engB A nx T O P L K = false) := eg_false (fun h => by have q := (h.pl p hlt).2.2; rw [HX.out, HYS.out] at q; simp only at q; rw [← HYN.out, ← q] at hn2; exact hn2 rfl)
                have hn' : ((n : Int) == (xs.length : Int)) = false := by rw [beq_eq_false_iff_ne]; omega
                clear hn2
                go_wp2
                go_ret
                exact ⟨retC HE.out.symm, hby⟩
              subst hn2
              by_cases hs2 : s = fl
              rotate_left
              · have HE : Hid (engB A nx T O P L K = false) := eg_false (fun h => by have q := (h.pl p hlt).2.1; rw [HX.out, HSS.out] at q; simp only at q; exact hs2 q.symm)
                have hs' : (s == fl) = false := by simp [hs2]
                clear hs2
                go_wp2
                go_ret
                exact ⟨retC HE.out.symm, hby⟩
              subst hs2
              have hxi : (xs.length : Int) ≤ 50 := by omega
              go_wp2
              go_loopw [9] (fun z wq => ∃ j : Nat, z = .int .i64 j ∧ j ≤ xs.length ∧ Hid (∀ i (h : i < ys.length) (h' : i < xs.length), i < j → ys[i] = xs[i]) ∧ Below wr.heap.size wr wq) (fun z _ => xs.length - (intOf z).toNat)
              case atStart => exact ⟨0, rfl, by omega, (fun i h h' k => by omega), Below.refl _ _⟩
              case round =>
                obtain ⟨j, rfl, hjj, HJ, hbr4⟩ := hrel
                have hb84 := below_two hbr3 hbr4
                by_cases hltj : j < xs.length
                · have hltj' : (j : Int) < (xs.length : Int) := by omega
                  have hjy : j < ys.length := by have := HYN.out; omega
                  obtain ⟨b1, o1, hak, hb1, c0⟩ := hys.out.at hbr4 j hjy
                  obtain ⟨b2, o2, hak2, hb2, c1⟩ := (sm8.up z8).at hb84 j hltj
                  subst hak hak2
                  obtain ⟨x, hx⟩ : ∃ x, ys[j] = x := ⟨_, rfl⟩
                  obtain ⟨y, hy⟩ : ∃ y, xs[j] = y := ⟨_, rfl⟩
                  have HX3 : Hid (ys[j] = x) := hx
                  have HY3 : Hid (xs[j] = y) := hy
                  rw [hx] at c0
                  rw [hy] at c1
                  clear hx hy
                  by_cases he : x = y
                  · subst he
                    go_wp2
                    go_quiet (fail)
                    go_wp2
                    go_roundw
                    case rel =>
                      refine ⟨j + 1, by go_num, by omega, fun i hi hi' hij => ?_, below_drews hbr4 _⟩
                      by_cases e : i = j
                      · subst e; rw [HX3.out, HY3.out]
                      · exact HJ.out i hi hi' (by omega)
                    case measure => first | (simp [intOf]; done) | (simp [intOf]; omega)
                  · have he' : (x == y) = false := by simp [he]
                    have HE : Hid (engB A nx T O P L K = false) := eg_false (fun h => by
                      have q := (h.pl p hlt).2.2
                      rw [HX.out, HYS.out] at q
                      simp only at q
                      have q2 : xs[j]? = ys[j]? := by rw [q]
                      rw [List.getElem?_eq_getElem hltj, List.getElem?_eq_getElem hjy, HX3.out, HY3.out] at q2
                      exact he (Option.some.inj q2).symm)
                    clear he
                    go_wp2
                    go_quiet (fail)
                    go_wp2
                    go_ret
                    exact ⟨retC HE.out.symm, below_drews (below_two hb8w hb84) _⟩
                · have e : j = xs.length := by omega
                  subst e
                  have HP2 : Hid (∀ q (h : q < L.length), q < p + 1 → plB L[q].1 L[q].2.1 L[q].2.2 = true ∧ L[q].2.1 = flK (atP K q) ∧ L[q].2.2 = idsK (atP K q)) := fun q hq hqp => by
                    by_cases e : q = p
                    · subst e
                      rw [HX.out, HSS.out, HYS.out]
                      exact ⟨h8, rfl, (List.ext_getElem HYN.out.symm (fun i h1 h2 => (HJ.out i h2 h1 h1).symm))⟩
                    · exact HP.out q hq (by omega)
                  go_wp2
                  go_roundw
                  case rel => exact ⟨p + 1, by go_num, by omega, HP2, below_two hbr2 (below_two hb8 hb84)⟩
                  case measure => first | (simp [intOf]; done) | (simp [intOf]; omega)
        · have e : p = L.length := by omega
          subst e
          have HE : Hid (engB A nx T O P L K = true) := eg_true ⟨H1.out, HA.out, h6, nL1, nL2, nK1, HC1.out, HR1.out, fun q hq => HP.out q hq hq⟩
          go_wp2
          go_ret
          exact ⟨retC HE.out.symm, hbx⟩
theorem specEngineOk_any {w : World} (now nx : Int) {aT aO aP aL aK : Option Addr} (cT cO cP cL cK : Nat) {T O P : List Q4} {L : List F8} {K : List Kn} (hT : Quad w.heap.size w aT T) (hO : Quad w.heap.size w aO O) (hP : Quad w.heap.size w aP P) (hL : Fls w.heap.size w aL L) (hK : Kls w.heap.size w aK K) (mT : T.length ≤ 1048576) (mL : L.length ≤ 1048576) (mK : K.length ≤ 1048576) (sK : ∀ c ∈ K, c.xs.length ≤ maxLen) :
    Calls Tryz.prog 23 #[engV now aT T.length cT aO O.length cO aP P.length cP aL L.length cL aK K.length cK nx] w fun e w' => e = .returned (.bool (engB now nx T O P L K)) ∧ Below w.heap.size w w' := by
  cases h0 : timeB now
  · exact specEng_no0 now nx cT cO cP cL cK hT hO hP hL hK mT mL mK sK h0
  cases h1 : lendB T O P
  · exact specEng_no1 now nx cT cO cP cL cK hT hO hP hL hK mT mL mK sK h0 h1
  by_cases h2 : atOf O = now
  rotate_left
  · exact specEng_no2 now nx cT cO cP cL cK hT hO hP hL hK mT mL mK sK h0 h1 h2
  by_cases h3 : (L.length : Int) < 1
  · exact specEng_no3 now nx cT cO cP cL cK hT hO hP hL hK mT mL mK sK h0 h1 h2 h3
  by_cases h4 : 10 < (L.length : Int)
  · exact specEng_no4 now nx cT cO cP cL cK hT hO hP hL hK mT mL mK sK h0 h1 h2 h3 h4
  by_cases h5 : 40 < (K.length : Int)
  · exact specEng_no5 now nx cT cO cP cL cK hT hO hP hL hK mT mL mK sK h0 h1 h2 h3 h4 h5
  cases h6 : inQ 0 nx 1000001
  · exact specEng_no6 now nx cT cO cP cL cK hT hO hP hL hK mT mL mK sK h0 h1 h2 h3 h4 h5 h6
  exact specEng_go now nx cT cO cP cL cK hT hO hP hL hK mT mL mK sK h0 h1 h2 h3 h4 h5 h6
theorem specEngineOk_is {w : World} {now nx : Int} {aT aO aP aL aK : Option Addr} (cT cO cP cL cK : Nat) {T O P : List Q4} {L : List F8} {K : List Kn} {f : Bool} (hf : engB now nx T O P L K = f) (hT : Quad w.heap.size w aT T) (hO : Quad w.heap.size w aO O) (hP : Quad w.heap.size w aP P) (hL : Fls w.heap.size w aL L) (hK : Kls w.heap.size w aK K) (mT : T.length ≤ 1048576) (mL : L.length ≤ 1048576) (mK : K.length ≤ 1048576) (sK : ∀ c ∈ K, c.xs.length ≤ maxLen) :
    Calls Tryz.prog 23 #[engV now aT T.length cT aO O.length cO aP P.length cP aL L.length cL aK K.length cK nx] w fun e w' => e = .returned (.bool (f)) ∧ Below w.heap.size w w' := by subst hf; exact specEngineOk_any now nx cT cO cP cL cK hT hO hP hL hK mT mL mK sK
def AnsPT (w : World) (xs : List Int) (wd fl : Int) (f : Bool) (e : Ending) (w' : World) : Prop := ∃ a n c, e = .returned (.tuple #[.agg #[.int .i64 wd, .int .i64 fl, .slice a n c], .bool f]) ∧ IV w' w.heap.size (.slice a n c) xs ∧ Below w.heap.size w w'
def hasI (id : Int) (xs : List Int) : Bool := decide (id ∈ xs)
/-- A Place that is made anew beside one that came in: what a walk keeps of them. -/
structure JK (w : World) (q : Nat) (wd fl f1 : Int) (a : Option Addr) (xs : List Int) (cap : Nat) (wr : World) (v : Value) : Prop where
  p : Qc wr w.heap.size wd fl (.slice a xs.length cap)
  r : Qc wr (w.heap.size + 1) 0 0 (.slice none 0 0)
  o : Qc wr q wd f1 v
  rf : ∀ k : Nat, wr.frozen? ⟨w.heap.size + 1, k, none⟩ = false
  of : ∀ k : Nat, wr.frozen? ⟨q, k, none⟩ = false
  hb : Below w.heap.size w wr
  wq : w.heap.size + 1 < q
theorem JK.onlyO {w : World} {q : Nat} {wd fl f1 : Int} {a : Option Addr} {xs : List Int} {cap : Nat} {wr wx : World} {v : Value} {o : Option Nat} (j : JK w q wd fl f1 a xs cap wr v) (ho : OnlyO o wr wx) (hq : ∀ g, o = some g → q < g) : JK w q wd fl f1 a xs cap wx v :=
  have n0 : o ≠ some w.heap.size := fun e => by have := hq _ e; have := j.wq; omega
  have n1 : o ≠ some (w.heap.size + 1) := fun e => by have := hq _ e; have := j.wq; omega
  have n2 : o ≠ some q := fun e => by have := hq _ e; omega
  ⟨j.p.onlyO ho n0, j.r.onlyO ho n1, j.o.onlyO ho n2, fun k => (ho.frozen (by exact j.r.z) (by exact n1)).trans (j.rf k), fun k => (ho.frozen (by exact j.o.z) (by exact n2)).trans (j.of k), j.hb.trans (ho.below (fun g e => by have := hq g e; have := j.wq; omega) j.hb.size), j.wq⟩
theorem JK.next {w : World} {q : Nat} {wd fl f1 : Int} {a : Option Addr} {xs : List Int} {cap : Nat} {wr wx : World} {v : Value} (j : JK w q wd fl f1 a xs cap wr v) (hb : Below wr.heap.size wr wx) : JK w q wd fl f1 a xs cap wx v := j.onlyO (o := none) (OnlyO.of_below hb) (fun g e => by cases e)
structure JSt (w : World) (q : Nat) (wd fl f1 : Int) (a : Option Addr) (xs : List Int) (cap : Nat) (wr : World) (v : Value) (n : Nat) (ys : List Int) : Prop where
  k : JK w q wd fl f1 a xs cap wr v
  own : wr.ownsRow (q + 1) 2 1 v n (flatI ys)
theorem JSt.o {w : World} {q : Nat} {wd fl f1 : Int} {a : Option Addr} {xs : List Int} {cap : Nat} {wr : World} {v : Value} {n : Nat} {ys : List Int} (j : JSt w q wd fl f1 a xs cap wr v n ys) : Qc wr q wd f1 v := j.k.o
theorem JSt.wq {w : World} {q : Nat} {wd fl f1 : Int} {a : Option Addr} {xs : List Int} {cap : Nat} {wr : World} {v : Value} {n : Nat} {ys : List Int} (j : JSt w q wd fl f1 a xs cap wr v n ys) : w.heap.size + 1 < q := j.k.wq
theorem JSt.next {w : World} {q : Nat} {wd fl f1 : Int} {a : Option Addr} {xs : List Int} {cap : Nat} {wr wx : World} {v : Value} {n : Nat} {ys : List Int} (j : JSt w q wd fl f1 a xs cap wr v n ys) (hb : Below wr.heap.size wr wx) : JSt w q wd fl f1 a xs cap wx v n ys := ⟨j.k.next hb, row_next j.own hb⟩
theorem JK.put {w : World} {q : Nat} {wd fl f1 : Int} {a : Option Addr} {xs : List Int} {cap : Nat} {wx : World} {v v1 : Value} {n : Nat} {ys : List Int} (j : JK w q wd fl f1 a xs cap wx v) (own : wx.ownsRow (q + 1) 2 1 v1 n (flatI ys)) : JSt w q wd fl f1 a xs cap (wx.setCell ⟨q, 2, none⟩ v1) v1 n ys := by
  have ho : Only q wx (wx.setCell ⟨q, 2, none⟩ v1) := (Only.refl _ wx).setCell (p := ⟨q, 2, none⟩) rfl _
  have n0 : w.heap.size ≠ q := by have := j.wq; omega
  have n1 : w.heap.size + 1 ≠ q := by have := j.wq; omega
  refine ⟨⟨j.p.onlyO (OnlyO.of_only ho) (fun e => n0 (Option.some.inj e).symm), j.r.onlyO (OnlyO.of_only ho) (fun e => n1 (Option.some.inj e).symm), ⟨by simpa using j.o.z, (set_other4 (by decide)).trans j.o.c0, (set_other4 (by decide)).trans j.o.c1, set_same4 _ j.o.c2⟩, fun k => by simpa using j.rf k, fun k => by simpa using j.of k, j.hb.trans (ho.below (by have := j.wq; omega) j.hb.size), j.wq⟩, row_set own (Nat.lt_succ_self _)⟩
/-- An Id put in order. -/
def insI (xs : List Int) (id : Int) : List Int := xs.takeWhile (fun y => decide (y < id)) ++ id :: xs.dropWhile (fun y => decide (y < id))
theorem insI_at {xs : List Int} {id : Int} {k : Nat} (hk : k ≤ xs.length) (h1 : ∀ j (hj : j < xs.length), j < k → xs[j] < id) (h2 : ∀ (h : k < xs.length), ¬ xs[k] < id) : insI xs id = xs.take k ++ [id] ++ xs.drop k := by
  have key : ∀ (L : List Int) (k : Nat), k ≤ L.length → (∀ j (hj : j < L.length), j < k → L[j] < id) → (∀ (h : k < L.length), ¬ L[k] < id) → (L.takeWhile fun y => decide (y < id)) = L.take k ∧ (L.dropWhile fun y => decide (y < id)) = L.drop k := by
    intro L
    induction L with
    | nil => intro k hk _ _; obtain rfl : k = 0 := by simpa using hk
             exact ⟨rfl, rfl⟩
    | cons y L ih =>
      intro k hk a b
      cases k with
      | zero =>
        have hy : ¬ y < id := b (by simp)
        simp [hy]
      | succ k =>
        have hy : y < id := a 0 (by simp) (by omega)
        obtain ⟨e1, e2⟩ := ih k (by simpa using hk) (fun j hj hjk => a (j + 1) (by simpa using hj) (by omega)) (fun h => b (by simpa using h))
        simp [hy, e1, e2]
  obtain ⟨e1, e2⟩ := key xs k hk h1 h2
  unfold insI
  rw [e1, e2]
  simp
theorem own_intsN {w : World} {base n : Nat} {v : Value} {xs : List Int} {t : TypeId} (e : n = xs.length) (h : w.ownsRow base t 1 v n (flatI xs)) : IV w base v xs := by
  subst e
  exact own_ints h
theorem sliceI_run {a : Option Addr} {n cap k : Nat} (hk : (k : Int) ≤ (n : Int)) (w : World) : (Instr.sliceAt 56 (.slice a n cap) (some (.int .i64 (k : Int))) none none).run Tryz.prog w = .ok (.slice (if cap = k then a else a.map (·.add k)) (n - k) (cap - k)) w := by
  have h0 : (0 : Int) ≤ (k : Int) := by omega
  have hk' : k ≤ n := by omega
  have hs : (sizeOf 2).run Tryz.prog w = .ok 1 w := by
    obtain ⟨i0, hi, _, hz1, _⟩ := info_parts info_i64
    simp [sizeOf, typeInfo, hi, hz1]
  simp [Instr.sliceAt, Instr.slice, Instr.sliceBounds, Instr.sliceBound, asIntOf, run_underlying Tryz.underlying56, h0, hk', hs]
theorem smp_drop {B : Nat} {w : World} {a : Option Addr} {xs : List Int} {cap k : Nat} (h : ISmp B w a xs) (hk : k ≤ xs.length) (hc : xs.length ≤ cap) : ISmp B w (if cap = k then a else a.map (·.add k)) (xs.drop k) := by
  intro i hi
  rw [List.length_drop] at hi
  obtain ⟨b, off, e, hb, c⟩ := h (k + i) (by omega)
  subst e
  rw [if_neg (by omega)]
  refine ⟨b, off + k, ?_, hb, ?_⟩
  · show some ((⟨b, off, none⟩ : Addr).add k) = _
    congr 1
    unfold Addr.add
    split <;> simp_all
  · rw [Nat.add_assoc, c, List.getElem_drop]
theorem wp_append_smp {P : Program} {w : World} {o : Oper} {a : Act} {K : Act → World → Prop} {Q : Exit → Act → World → Prop} (s x : Operand) (t : TypeId)
    (ho : o.op = .call { callee := .builtin .append, args := #[s, x], argTypes := #[t, t] })
    (base : Nat) (e : TypeId) (i : TypeInfo) (z : Value) (ht : P.underlying t = some (.slice e)) (hi : P.info? e = some i) (hz : i.zero = some z) (hsize : i.size = 1) (hby : i.bytes = 8) (hzs : z.cells.size = 1)
    (v : Value) (n : Nat) (xs : List Value) (hs : a.eval s = v) (hown : w.ownsRow base e 1 v n xs) (u : Option Addr) (c B : Nat) (ys : List Int) (hx : a.eval x = .slice u ys.length c) (hu : ISmp B w u ys) (hn : n + ys.length ≤ 1048576) (hbase : base ≤ w.heap.size)
    (h : ∀ v' w', w'.ownsRow base e 1 v' (n + ys.length) (xs ++ flatI ys) → w.grownBy w' v.ownBlock → K (a.put o.dst v') w') : o.wp P a w K Q := by
  cases u with
  | some ad =>
    exact wp_append_own w s x t ho base e i z 1 8 ht hi hz hsize hby hzs (by decide) v n xs hs hown ad ys.length c (flatI ys) hx (by rw [flatI_length, Nat.mul_one]) (ismp_news hu) (flatI_one ys) (by unfold maxLen; omega) (by omega) hbase (fun v' w' k1 k2 _ => h v' w' k1 k2)
  | none =>
    have hy : ys = [] := by
      cases ys with
      | nil => rfl
      | cons y r => obtain ⟨b, off, e, _⟩ := hu 0 (by simp); cases e
    subst hy
    have hrun : (Builtin.append_ #[t, t] o.type #[v, .slice none 0 c]).run P w = .ok v w := run_append_owned_none (P := P) (w := w) base t o.type e i 1 ht hi v n xs hown
    have k := h v w (by simpa [flatI] using hown) ⟨rfl, rfl, rfl, Nat.le_refl _, fun _ _ _ => rfl⟩
    rw [List.length_nil] at hx
    unfold Oper.wp
    simp [execOp, ho, resolve, invoke, builtin, hs, hx, hrun, Result.andThen]
    exact k
set_option maxHeartbeats 8000000 in
theorem l13Join_any {wd fl id : Int} {w : World} {a : Option Addr} (cap : Nat) {xs : List Int} (hl : xs.length ≤ 50) (hc : xs.length ≤ cap) (smp : ISmp w.heap.size w a xs) : Calls Tryz.prog 31 #[.agg #[.int .i64 wd, .int .i64 fl, .slice a xs.length cap], .int .i64 id] w (AnsP w (insI xs id) wd fl) := by
  obtain ⟨i0, hi, hz0, hz1, hz2⟩ := info_parts info_int
  go_enter Tryz.func31, Tryz.ntmps31
  go_upto_region 2 with (fail)
  obtain ⟨x, hx⟩ : ∃ x, x = ((w.alloc (.cells #[.int .i64 wd, .int .i64 fl, .slice a xs.length cap] 58)).alloc (.cells #[.int .i64 0, .int .i64 0, .slice none 0 0] 58)).alloc (.cells #[.int .i64 wd, .int .i64 fl, .slice none 0 0] 58) := ⟨_, rfl⟩
  rw [← hx]
  have hbx : Below w.heap.size w x := by rw [hx]; go_grown
  obtain ⟨q, hq⟩ : ∃ q, q = w.heap.size + 1 + 1 := ⟨_, rfl⟩
  rw [← hq]
  obtain ⟨f1, hf1⟩ : ∃ f1 : Int, f1 = fl := ⟨_, rfl⟩
  have J0 : Hid (JSt w q wd fl f1 a xs cap x (.slice none 0 0) 0 []) := by
    rw [hx, hq, hf1]
    exact ⟨⟨⟨by simp; omega, by go_simp, by go_simp, by go_simp⟩, ⟨by simp, by go_simp, by go_simp, by go_simp⟩, ⟨by simp, by go_simp, by go_simp, by go_simp⟩, fun k => by go_simp, fun k => by go_simp, by go_grown, by omega⟩, World.ownsRow_nil _ _ _ _⟩
  clear hx hq hbx
  have HF : Hid (f1 = fl) := hf1
  clear hf1
  go_wp2
  go_loopw [6] (fun i wr => ∃ (k : Nat) (ua : Option Addr) (uc : Nat), i = .int .i64 k ∧ k ≤ xs.length ∧ JSt w q wd fl f1 a xs cap wr (.slice ua k uc) k (xs.take k) ∧ (∀ j (hj : j < xs.length), j < k → xs[j] < id)) (fun i _ => xs.length - (intOf i).toNat)
  case atStart => exact ⟨0, none, 0, rfl, by omega, J0.out, fun j hj h => by omega⟩
  case round =>
    clear J0
    obtain ⟨n, ua, uc, rfl, hk, JS, hbef⟩ := hrel
    obtain ⟨k, hkn⟩ : ∃ k, k = n := ⟨_, rfl⟩
    obtain ⟨ys, hys⟩ : ∃ ys, ys = xs.take n := ⟨_, rfl⟩
    have HYS : Hid (ys = xs.take n) := hys
    rw [← hys] at JS
    have JJ : Hid (JSt w q wd fl f1 a xs cap wr (.slice ua n uc) n ys) := JS
    have hwr : Below w.heap.size w wr := JS.k.hb
    have hwq := JS.wq
    have hqz := JS.o.z
    have HB : Hid (∀ j (hj : j < xs.length), j < n → xs[j] < id) := hbef
    clear JS hys hbef
    have s0 : wr.cell? ⟨w.heap.size, 2, none⟩ = some (.slice a xs.length cap) := JJ.out.k.p.c2
    have s1 : wr.cell? ⟨q, 2, none⟩ = some (.slice ua n uc) := JJ.out.k.o.c2
    have hwz : w.heap.size < wr.heap.size := JJ.out.k.p.z
    by_cases hgo : ∃ h : n < xs.length, xs[n] < id
    · obtain ⟨hlt, hy0⟩ := hgo
      obtain ⟨y, hy⟩ : ∃ y, xs[n] = y := ⟨_, rfl⟩
      have HY : Hid (xs.take (n + 1) = ys ++ [y]) := by show _ = _; rw [List.take_succ_eq_append_getElem hlt, hy, HYS.out]
      have HN : Hid (∀ j (hj : j < xs.length), j < n + 1 → xs[j] < id) := fun j hj h => by
        by_cases e : j = n
        · subst e
          exact hy0
        · exact HB.out j hj (by omega)
      have hlt' : (n : Int) < (xs.length : Int) := by omega
      obtain ⟨b, off, rfl, hb, c0⟩ := smp.at hwr n hlt
      rw [hy] at c0 hy0
      rw [← hkn] at c0
      have hyd : decide (y < id) = true := decide_eq_true hy0
      have hn50 : n < 50 := by omega
      clear hy
      subst hkn
      go_wp2
      refine region_late (S := fun w' => w'.cell? ⟨w.heap.size, 2, none⟩ = some (.slice (some ⟨b, off, none⟩) xs.length cap) ∧ w'.cell? ⟨q, 2, none⟩ = some (.slice ua k uc) ∧ w'.cell? ⟨b, off + k, none⟩ = some (.int .i64 y)) 10 (by kernel_rfl) (⟨by go_simp, by go_simp, by go_simp⟩) (fun hS => ?_)
      refine lateR 0 rfl ?_
      refine lateR 1 rfl ?_
      refine lateR 2 rfl ?_
      refine lateR 3 rfl ?_
      refine lateR 4 rfl ?_
      refine lateR 5 rfl ?_
      refine lateR 6 rfl ?_
      refine late_one (i := 7) (by kernel_rfl) rfl (fun K hK => ?_)
      go_simp
      refine hK.out _ _ (have k' := below_cells (w := wr) (w' := (wr.drew.alloc (.cells #[.int .i64 y] 2))) (by go_grown); ⟨(k' _ _ (by omega)).trans s0, (k' _ _ (by omega)).trans s1, (k' _ _ (by have := hwr.size; omega)).trans c0⟩) (fun hS => ?_)
      try simp only [nrm]
      refine late_one (i := 8) (by kernel_rfl) rfl (fun K hK => ?_)
      rw [if_pos (by rfl)]
      refine wp_append_own _ _ _ 56 rfl (q + 1) 2 i0 _ 1 8 Tryz.underlying56 hi hz0 hz1 hz2 rfl (by decide) _ _ _ rfl (JJ.out.own.drew.alloc _) ⟨wr.heap.size, 0, none⟩ 1 1 [.int .i64 y] rfl rfl (one_news (by go_simp)) (fun u hu => by rw [List.mem_singleton] at hu; subst hu; rfl) (by unfold maxLen; omega) (by omega) (by have := JJ.out.o.z; simp; omega) ?_
      intro v1 wx hown1 hgr1 hnil1
      obtain ⟨a1, c1', rfl⟩ := own_slice hown1
      have hno : OnlyO (Value.slice ua k uc).ownBlock wr wx := OnlyO.trans (OnlyO.of_below (by go_grown)) (OnlyO.of_grown hgr1)
      have J1 := JJ.out.k.onlyO hno (fun g e' => by have := (JJ.out.own.lt g e').1; omega)
      have JF : Hid (JSt w q wd fl f1 (some ⟨b, off, none⟩) xs cap (wx.setCell ⟨q, 2, none⟩ (.slice a1 (k + 1) c1')) (.slice a1 (k + 1) c1') (k + 1) (ys ++ [y])) := JK.put J1 (by rw [flatI_append]; exact hown1)
      have hx1 := hno.size
      have s0x := J1.p.c2
      have s1x := J1.o.c2
      have s2x := J1.of
      refine hK.out _ _ ⟨s0x, s1x, (hno.cell (p := ⟨b, off + k, none⟩) (by show b < _; have := hwr.size; omega) (fun e' => by have h1 := (JJ.out.own.lt _ e').1; have h2 := JJ.out.wq; change q + 1 ≤ b at h1; omega)).trans c0⟩ (fun hS => ?_)
      try simp only [nrm]
      refine lateR 9 rfl ?_
      refine late_last (by kernel_rfl) rfl (by kernel_rfl) (fun K hK => ?_)
      go_simp
      refine hK.out _ _ ?_
      try simp only [nrm]
      obtain ⟨x9, hx9⟩ : ∃ x, x = wx.setCell ⟨q, 2, none⟩ (.slice a1 (k + 1) c1') := ⟨_, rfl⟩
      rw [← hx9] at JF ⊢
      clear hx9
      go_wp2
      go_roundw
      case rel => exact ⟨k + 1, a1, c1', by go_num, by omega, by rw [HY.out]; exact JF.out, HN.out⟩
      case measure => first | (simp [intOf]; done) | (simp [intOf]; omega)
    · have HINS : Hid (insI xs id = ys ++ [id] ++ xs.drop n) := by
        show _ = _
        rw [HYS.out]
        exact insI_at hk HB.out (fun h hh => hgo ⟨h, hh⟩)
      have hsl := fun w => sliceI_run (a := a) (cap := cap) (show (n : Int) ≤ (xs.length : Int) by omega) w
      have HSL : Hid (∀ w, (Instr.sliceAt 56 (.slice a xs.length cap) (some (.int .i64 (n : Int))) none none).run Tryz.prog w = .ok (.slice (if cap = n then a else a.map (·.add n)) (xs.length - n) (cap - n)) w) := hsl
      clear hsl
      have HSM : Hid (∀ wx, Below w.heap.size w wx → ISmp w.heap.size wx (if cap = n then a else a.map (·.add n)) (xs.drop n)) := fun wx h => smp_drop (smp.mono h) hk hc
      obtain ⟨u, hu⟩ : ∃ u : Option Addr, (if cap = n then a else a.map (·.add n)) = u := ⟨_, rfl⟩
      rw [hu] at HSL HSM
      clear hu
      obtain ⟨zs, hzs⟩ : ∃ zs, zs = xs.drop n := ⟨_, rfl⟩
      have HZL : Hid (xs.length - n = zs.length) := by show _ = _; rw [hzs, List.length_drop]
      have hzl : n + 1 + zs.length ≤ 60 := by rw [hzs, List.length_drop]; omega
      rw [← hzs] at HSM HINS
      rw [HZL.out] at HSL
      have HIL : Hid ((insI xs id).length = n + 1 + zs.length) := by
        show _ = _
        rw [HINS.out, List.length_append, List.length_append, HYS.out, List.length_take]
        simp
        omega
      clear hzs
      by_cases hlt : n < xs.length
      · have hlt' : (n : Int) < (xs.length : Int) := by omega
        obtain ⟨b, off, rfl, hb, c0⟩ := smp.at hwr n hlt
        obtain ⟨y, hy⟩ : ∃ y, xs[n] = y := ⟨_, rfl⟩
        have hyd : decide (y < id) = false := decide_eq_false (fun h => hgo ⟨hlt, by rw [hy]; exact h⟩)
        rw [hy] at c0
        clear hy hgo
        go_upto_region 6 with (fail)
        refine region_late (S := fun w' => w'.cell? ⟨w.heap.size, 2, none⟩ = some (.slice (some ⟨b, off, none⟩) xs.length cap) ∧ w'.cell? ⟨q, 2, none⟩ = some (.slice ua n uc)) 13 (by kernel_rfl) (⟨by go_simp, by go_simp⟩) (fun hS => ?_)
        refine lateR 0 rfl ?_
        refine lateR 1 rfl ?_
        refine lateR 2 rfl ?_
        refine lateR 5 rfl ?_
        refine lateR 6 rfl ?_
        refine lateR 7 rfl ?_
        refine lateR 8 rfl ?_
        refine lateR 9 rfl ?_
        refine lateV 10 (v := .slice u zs.length (cap - n)) rfl ?_ ?_
        · (intro w' hSw; (try dsimp only at hSw); have h := HSL.out w'; simp [execOp, Act.eval, h, Result.andThen])
        try simp only [nrm]
        refine late_one (i := 3) (by kernel_rfl) rfl (fun K hK => ?_)
        go_simp
        refine hK.out _ _ (have k' := below_cells (w := wr) (w' := (wr.drew.alloc (.cells #[.int .i64 id] 2))) (by go_grown); ⟨(k' _ _ (by omega)).trans s0, (k' _ _ (by omega)).trans s1⟩) (fun hS => ?_)
        try simp only [nrm]
        refine late_one (i := 4) (by kernel_rfl) rfl (fun K hK => ?_)
        rw [if_pos (by rfl)]
        refine wp_append_own _ _ _ 56 rfl (q + 1) 2 i0 _ 1 8 Tryz.underlying56 hi hz0 hz1 hz2 rfl (by decide) _ _ _ rfl (JJ.out.own.drew.alloc _) ⟨wr.heap.size, 0, none⟩ 1 1 [.int .i64 id] rfl rfl (one_news (by go_simp)) (fun u hu => by rw [List.mem_singleton] at hu; subst hu; rfl) (by unfold maxLen; omega) (by omega) (by simp; omega) ?_
        intro v1 wx hown1 hgr1 hnil1
        obtain ⟨a1, c1', rfl⟩ := own_slice hown1
        have hno : OnlyO (Value.slice ua n uc).ownBlock wr wx := OnlyO.trans (OnlyO.of_below (by go_grown)) (OnlyO.of_grown hgr1)
        have J1 := JJ.out.k.onlyO hno (fun g e' => by have := (JJ.out.own.lt g e').1; omega)
        have hx1 := hno.size
        have s0x := J1.p.c2
        have s1x := J1.o.c2
        refine hK.out _ _ ⟨s0x, s1x⟩ (fun hS => ?_)
        try simp only [nrm]
        refine late_one (i := 11) (by kernel_rfl) rfl (fun K hK => ?_)
        rw [if_pos (by rfl)]
        refine wp_append_smp _ _ 56 rfl (q + 1) 2 i0 _ Tryz.underlying56 hi hz0 hz1 hz2 rfl _ _ _ rfl hown1 u (cap - n) w.heap.size zs rfl (HSM.out _ J1.hb) (by omega) (by omega) ?_
        intro v2 wy hown2 hgr2
        obtain ⟨a2, c2', rfl⟩ := own_slice hown2
        have hno2 : OnlyO (Value.slice a1 (n + 1) c1').ownBlock wx wy := OnlyO.of_grown hgr2
        have J2 := J1.onlyO hno2 (fun g e' => by have := (hown1.lt g e').1; omega)
        have JF : Hid (JSt w q wd fl f1 ((some ⟨b, off, none⟩)) xs cap (wy.setCell ⟨q, 2, none⟩ (.slice a2 (n + 1 + zs.length) c2')) (.slice a2 (n + 1 + zs.length) c2') (n + 1 + zs.length) (insI xs id)) := JK.put J2 (by rw [HINS.out, flatI_append, flatI_append]; exact hown2)
        have s0y := J2.p.c2
        have s1y := J2.o.c2
        have s2y := J2.of
        have hqy := J2.o.z
        refine hK.out _ _ ⟨s0y, s1y⟩ (fun hS => ?_)
        try simp only [nrm]
        refine lateR 12 rfl ?_
        refine late_last (by kernel_rfl) rfl (by kernel_rfl) (fun K hK => ?_)
        go_simp
        refine hK.out _ _ ?_
        try simp only [nrm]
        obtain ⟨x9, hx9⟩ : ∃ x, x = wy.setCell ⟨q, 2, none⟩ (.slice a2 (n + 1 + zs.length) c2') := ⟨_, rfl⟩
        rw [← hx9] at JF ⊢
        clear hx9
        have v0 := JF.out.k.r.c0
        have v1 := JF.out.k.r.c1
        have v2 := JF.out.k.r.c2
        have vz := JF.out.k.rf
        have o0 := JF.out.k.o.c0
        have o1 := JF.out.k.o.c1
        have o2 := JF.out.k.o.c2
        have hb9 := JF.out.k.hb
        have ow9 := JF.out.own
        have iv9 : IV x9 (q + 1) (.slice a2 (n + 1 + zs.length) c2') (insI xs id) := own_intsN HIL.out.symm ow9
        go_wp2
        obtain ⟨y9, ey, cs, fzy, sz, hbel, hon⟩ := over3 (.int .i64 wd) (.int .i64 f1) (.slice a2 (n + 1 + zs.length) c2') (w := x9) (g := w.heap.size + 1) v0 v1 v2
        rw [← ey]
        refine bodyPost_ret (results_one rfl _ _ _ [.int .i64 wd, .int .i64 f1, .slice a2 (n + 1 + zs.length) c2'] rfl cs Tryz.underlying58 rfl (by kernel_rfl)) rfl ?_
        rw [← HF.out]
        exact ⟨_, _, _, rfl, (iv9.onlyO (OnlyO.of_only hon) (fun g hg e => by have := (iv9.own hg).1; injection e with e; omega)).lower (by omega), hb9.trans (hbel _ (by omega))⟩
      · have hlt' : ¬ (n : Int) < (xs.length : Int) := by omega
        have hdl : decide ((n : Int) < (xs.length : Int)) = false := decide_eq_false hlt'
        clear hgo
        go_upto_region 6 with (fail)
        refine region_late (S := fun w' => w'.cell? ⟨w.heap.size, 2, none⟩ = some (.slice a xs.length cap) ∧ w'.cell? ⟨q, 2, none⟩ = some (.slice ua n uc)) 13 (by kernel_rfl) (⟨by go_simp, by go_simp⟩) (fun hS => ?_)
        refine lateR 0 rfl ?_
        refine lateR 1 rfl ?_
        refine lateR 2 rfl ?_
        refine lateR 5 rfl ?_
        refine lateR 6 rfl ?_
        refine lateR 7 rfl ?_
        refine lateR 8 rfl ?_
        refine lateR 9 rfl ?_
        refine lateV 10 (v := .slice u zs.length (cap - n)) rfl ?_ ?_
        · (intro w' hSw; (try dsimp only at hSw); have h := HSL.out w'; simp [execOp, Act.eval, h, Result.andThen])
        try simp only [nrm]
        refine late_one (i := 3) (by kernel_rfl) rfl (fun K hK => ?_)
        go_simp
        refine hK.out _ _ (have k' := below_cells (w := wr) (w' := (wr.drew.alloc (.cells #[.int .i64 id] 2))) (by go_grown); ⟨(k' _ _ (by omega)).trans s0, (k' _ _ (by omega)).trans s1⟩) (fun hS => ?_)
        try simp only [nrm]
        refine late_one (i := 4) (by kernel_rfl) rfl (fun K hK => ?_)
        rw [if_pos (by rfl)]
        refine wp_append_own _ _ _ 56 rfl (q + 1) 2 i0 _ 1 8 Tryz.underlying56 hi hz0 hz1 hz2 rfl (by decide) _ _ _ rfl (JJ.out.own.drew.alloc _) ⟨wr.heap.size, 0, none⟩ 1 1 [.int .i64 id] rfl rfl (one_news (by go_simp)) (fun u hu => by rw [List.mem_singleton] at hu; subst hu; rfl) (by unfold maxLen; omega) (by omega) (by simp; omega) ?_
        intro v1 wx hown1 hgr1 hnil1
        obtain ⟨a1, c1', rfl⟩ := own_slice hown1
        have hno : OnlyO (Value.slice ua n uc).ownBlock wr wx := OnlyO.trans (OnlyO.of_below (by go_grown)) (OnlyO.of_grown hgr1)
        have J1 := JJ.out.k.onlyO hno (fun g e' => by have := (JJ.out.own.lt g e').1; omega)
        have hx1 := hno.size
        have s0x := J1.p.c2
        have s1x := J1.o.c2
        refine hK.out _ _ ⟨s0x, s1x⟩ (fun hS => ?_)
        try simp only [nrm]
        refine late_one (i := 11) (by kernel_rfl) rfl (fun K hK => ?_)
        rw [if_pos (by rfl)]
        refine wp_append_smp _ _ 56 rfl (q + 1) 2 i0 _ Tryz.underlying56 hi hz0 hz1 hz2 rfl _ _ _ rfl hown1 u (cap - n) w.heap.size zs rfl (HSM.out _ J1.hb) (by omega) (by omega) ?_
        intro v2 wy hown2 hgr2
        obtain ⟨a2, c2', rfl⟩ := own_slice hown2
        have hno2 : OnlyO (Value.slice a1 (n + 1) c1').ownBlock wx wy := OnlyO.of_grown hgr2
        have J2 := J1.onlyO hno2 (fun g e' => by have := (hown1.lt g e').1; omega)
        have JF : Hid (JSt w q wd fl f1 (a) xs cap (wy.setCell ⟨q, 2, none⟩ (.slice a2 (n + 1 + zs.length) c2')) (.slice a2 (n + 1 + zs.length) c2') (n + 1 + zs.length) (insI xs id)) := JK.put J2 (by rw [HINS.out, flatI_append, flatI_append]; exact hown2)
        have s0y := J2.p.c2
        have s1y := J2.o.c2
        have s2y := J2.of
        have hqy := J2.o.z
        refine hK.out _ _ ⟨s0y, s1y⟩ (fun hS => ?_)
        try simp only [nrm]
        refine lateR 12 rfl ?_
        refine late_last (by kernel_rfl) rfl (by kernel_rfl) (fun K hK => ?_)
        go_simp
        refine hK.out _ _ ?_
        try simp only [nrm]
        obtain ⟨x9, hx9⟩ : ∃ x, x = wy.setCell ⟨q, 2, none⟩ (.slice a2 (n + 1 + zs.length) c2') := ⟨_, rfl⟩
        rw [← hx9] at JF ⊢
        clear hx9
        have v0 := JF.out.k.r.c0
        have v1 := JF.out.k.r.c1
        have v2 := JF.out.k.r.c2
        have vz := JF.out.k.rf
        have o0 := JF.out.k.o.c0
        have o1 := JF.out.k.o.c1
        have o2 := JF.out.k.o.c2
        have hb9 := JF.out.k.hb
        have ow9 := JF.out.own
        have iv9 : IV x9 (q + 1) (.slice a2 (n + 1 + zs.length) c2') (insI xs id) := own_intsN HIL.out.symm ow9
        go_wp2
        obtain ⟨y9, ey, cs, fzy, sz, hbel, hon⟩ := over3 (.int .i64 wd) (.int .i64 f1) (.slice a2 (n + 1 + zs.length) c2') (w := x9) (g := w.heap.size + 1) v0 v1 v2
        rw [← ey]
        refine bodyPost_ret (results_one rfl _ _ _ [.int .i64 wd, .int .i64 f1, .slice a2 (n + 1 + zs.length) c2'] rfl cs Tryz.underlying58 rfl (by kernel_rfl)) rfl ?_
        rw [← HF.out]
        exact ⟨_, _, _, rfl, (iv9.onlyO (OnlyO.of_only hon) (fun g hg e => by have := (iv9.own hg).1; injection e with e; omega)).lower (by omega), hb9.trans (hbel _ (by omega))⟩
end Go.Proofs.YtkohlmloobojfaaGreat
