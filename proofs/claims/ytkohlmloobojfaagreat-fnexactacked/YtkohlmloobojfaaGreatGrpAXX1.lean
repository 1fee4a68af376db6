/- Lemmas on the way, of several texts: SpecEng, SpecPlc3. -/
import Derived.Test.YtkohlmloobojfaaGreatGrpAF
import Derived.Test.YtkohlmloobojfaaGreatGrpAX
import Derived.Deep.QuietTactic
import Derived.BigQuiet
namespace Go.Proofs.YtkohlmloobojfaaGreat
open Go.ChangeShapes Go.WideShapes Go.ChangeAt Go.RowKit
set_option maxRecDepth 100000
set_option linter.unusedVariables false
set_option linter.unusedSimpArgs false
theorem flK_bd2 {K : List Kn} (h : ∀ c ∈ K, 0 ≤ c.fl ∧ c.fl ≤ 1000000000) (hl : K.length ≤ 40) : 0 ≤ flK K ∧ flK K ≤ 1000000000 * 40 := by
 have := flK_bd h
 omega
set_option maxHeartbeats 8000000 in
theorem specEng_go {w : World} (now nx : Int) {aT aO aP aL aK : Option Addr} (cT cO cP cL cK : Nat) {T O P : List Q4} {L : List F8} {K : List Kn} (hT : Quad w.heap.size w aT T) (hO : Quad w.heap.size w aO O) (hP : Quad w.heap.size w aP P) (hL : Fls w.heap.size w aL L) (hK : Kls w.heap.size w aK K) (mT : T.length ≤ 1048576) (mL : L.length ≤ 1048576) (mK : K.length ≤ 1048576) (sK : ∀ c ∈ K, c.xs.length ≤ maxLen) (h0 : timeB now = true) (h1 : lendB T O P = true) (h2 : atOf O = now) (h3 : ¬ ((L.length : Int) < 1)) (h4 : ¬ (10 < (L.length : Int))) (h5 : ¬ (40 < (K.length : Int))) (h6 : inQ 0 nx 1000001 = true) :
   Calls Tryz.prog 23 #[engV now aT T.length cT aO O.length cO aP P.length cP aL L.length cL aK K.length cK nx] w fun e w' => e = .returned (.bool (engB now nx T O P L K)) ∧ Below w.heap.size w w' := by
 obtain ⟨v, hv⟩ : ∃ v, v = w.alloc (.cells #[.int .i64 now, .slice aT T.length cT, .slice aO O.length cO, .slice aP P.length cP, .slice aL L.length cL, .slice aK K.length cK, .int .i64 nx] 38) := ⟨_, rfl⟩
 have nb : Below w.heap.size w v := by rw [hv]; go_grown
 have L0 : Lay v w.heap.size [.int .i64 now, .slice aT T.length cT, .slice aO O.length cO, .slice aP P.length cP, .slice aL L.length cL, .slice aK K.length cK, .int .i64 nx] := by rw [hv]; exact lay_new [.int .i64 now, .slice aT T.length cT, .slice aO O.length cO, .slice aP P.length cP, .slice aL L.length cL, .slice aK K.length cK, .int .i64 nx] _ rfl
 have hlo := (lend_of h1).lo
 have hl0 := (lend_of h1).tree.l0
 have h0O : 0 < O.length := by omega
 have h0O' : (0 : Int) < (O.length : Int) := by omega
 clear hlo hl0
 obtain ⟨A, hA⟩ : ∃ A, O[0].2.2.2 = A := ⟨_, rfl⟩
 have HA : Hid (atOf O = A) := (atOf_at h0O).trans hA
 rw [HA.out] at h2
 obtain ⟨bo, oo, hao, hbo, -, -, -, qA⟩ := hO.at nb 0 h0O
 rw [hA, Nat.zero_mul, Nat.add_zero] at qA
 subst hao
 clear hA
 subst h2
 obtain ⟨j0, hj, jz0, jz1, jz2⟩ := info_parts info_i64
 have nL1 : 1 ≤ L.length := by omega
 have nL2 : L.length ≤ 10 := by omega
 have nK1 : K.length ≤ 40 := by omega
 go_enter Tryz.func23, Tryz.ntmps23
 go_upto_region 1 with (fail)
 rw [← hv]
 clear hv
 have HS : Hid (∀ x, Below v.heap.size v x → x.cell? ⟨w.heap.size, 0, none⟩ = some (.int .i64 A) ∧ x.cell? ⟨w.heap.size, 1, none⟩ = some (.slice aT T.length cT) ∧ x.cell? ⟨w.heap.size, 2, none⟩ = some (.slice (some ⟨bo, oo, none⟩) O.length cO) ∧ x.cell? ⟨w.heap.size, 3, none⟩ = some (.slice aP P.length cP) ∧ x.cell? ⟨w.heap.size, 4, none⟩ = some (.slice aL L.length cL) ∧ x.cell? ⟨w.heap.size, 5, none⟩ = some (.slice aK K.length cK) ∧ x.cell? ⟨w.heap.size, 6, none⟩ = some (.int .i64 nx) ∧ x.cell? ⟨bo, oo + 3, none⟩ = some (.int .i64 A)) := fun x hx => ⟨(L0.next hx).cell 0 _ rfl, (L0.next hx).cell 1 _ rfl, (L0.next hx).cell 2 _ rfl, (L0.next hx).cell 3 _ rfl, (L0.next hx).cell 4 _ rfl, (L0.next hx).cell 5 _ rfl, (L0.next hx).cell 6 _ rfl, (hx.cell (by exact Nat.lt_of_lt_of_le hbo nb.size)).trans qA⟩
 refine wp_region_held_drew (S := fun w' => w'.cell? ⟨w.heap.size, 0, none⟩ = some (.int .i64 A) ∧ w'.cell? ⟨w.heap.size, 1, none⟩ = some (.slice aT T.length cT) ∧ w'.cell? ⟨w.heap.size, 2, none⟩ = some (.slice (some ⟨bo, oo, none⟩) O.length cO) ∧ w'.cell? ⟨w.heap.size, 3, none⟩ = some (.slice aP P.length cP) ∧ w'.cell? ⟨w.heap.size, 4, none⟩ = some (.slice aL L.length cL) ∧ w'.cell? ⟨w.heap.size, 5, none⟩ = some (.slice aK K.length cK) ∧ w'.cell? ⟨w.heap.size, 6, none⟩ = some (.int .i64 nx) ∧ w'.cell? ⟨bo, oo + 3, none⟩ = some (.int .i64 A)) (by kernel_rfl) (HS.out _ (Below.refl _ _).drew) (fun hS => ?_)
 refine anyR 0 rfl ?_
 refine anyR 1 rfl ?_
 refine anyC 2 rfl fun Kr hKr => ?_
 go_simp
 (refine (sTime_is h0 _).mono ?_; rintro e w3 ⟨rfl, e3⟩; replace e3 := e3.symm; subst e3)
 refine hKr.out _ _ ‹_› fun _ => ?_
 try simp only [nrm]
 refine anyR 3 rfl ?_
 refine anyR 4 rfl ?_
 refine anyR 5 rfl ?_
 refine anyR 6 rfl ?_
 refine anyC 7 rfl fun Kr hKr => ?_
 go_simp
 (refine (specLendOk_is cT cO cP h1 (hT.here (nb.drew)) (hO.here (nb.drew)) (hP.here (nb.drew))).mono ?_; rintro e w5 ⟨rfl, hb5⟩; have hb5 := undrewE hb5; have hS5 := HS.out _ hb5)
 refine hKr.out _ _ ‹_› fun _ => ?_
 try simp only [nrm]
 refine anyR 8 rfl ?_
 refine anyR 9 rfl ?_
 refine anyR 10 rfl ?_
 refine anyR 11 rfl ?_
 refine anyR 12 rfl ?_
 refine anyR 13 rfl ?_
 refine anyR 14 rfl ?_
 refine anyR 15 rfl ?_
 refine anyR 16 rfl ?_
 refine anyR 17 rfl ?_
 refine anyR 18 rfl ?_
 refine anyR 19 rfl ?_
 refine anyR 20 rfl ?_
 refine anyR 21 rfl ?_
 refine anyR 22 rfl ?_
 refine anyR 23 rfl ?_
 refine anyR 24 rfl ?_
 refine anyR 25 rfl ?_
 refine anyR 26 rfl ?_
 refine anyR 27 rfl ?_
 refine anyR 28 rfl ?_
 refine anyR 29 rfl ?_
 refine anyR 30 rfl ?_
 refine anyR 31 rfl ?_
 refine anyR 32 rfl ?_
 refine anyR 33 rfl ?_
 refine anyR 34 rfl ?_
 refine anyR 35 rfl ?_
 refine anyR 36 rfl ?_
 refine anyR 37 rfl ?_
 refine anyR 38 rfl ?_
 refine anyR 39 rfl ?_
 refine anyR 40 rfl ?_
 refine anyR 41 rfl ?_
 refine anyC 42 rfl fun Kr hKr => ?_
 go_simp
 (refine (inQ_is h6 _).mono ?_; rintro e w3 ⟨rfl, e3⟩; replace e3 := e3.symm; subst e3)
 refine hKr.out _ _ ‹_› fun _ => ?_
 try simp only [nrm]
 refine anyR 43 rfl ?_
 refine anyR 44 rfl ?_
 refine wpAnyH_done (by kernel_rfl) ?_ _
 go_wp2
 have L2 := L0.next hb5
 have bw5 := below_two nb hb5
 have H1 : Hid (lendB T O P = true) := h1
 clear hS5 HS L0 nb hb5 qA h0O h0O' h3 h4 h5
 have hKi : (K.length : Int) ≤ 40 := by omega
 have hLi : (L.length : Int) ≤ 10 := by omega
 have zL : w.heap.size < w5.heap.size := L2.lt
 go_loopw [3] (fun i wr => ∃ k : Nat, i = .int .i64 k ∧ k ≤ K.length ∧ Hid (∀ j (h : j < K.length), j < k → conB T L.length K[j] = true) ∧ Hid (∀ j (h : j < K.length) (h' : j + 1 < K.length), j + 1 < k → K[j].id < K[j + 1].id) ∧ Below w5.heap.size w5 wr) (fun i _ => K.length - (intOf i).toNat)
 case atStart => exact ⟨0, rfl, by omega, (fun j h k => by omega), (fun j h h' k => by omega), Below.refl _ _⟩
 case round =>
   obtain ⟨k, rfl, hk, HC, HR, hbr⟩ := hrel
   have M := L2.next hbr
   have c5 : wr.cell? ⟨w.heap.size, 5, none⟩ = some (.slice aK K.length cK) := M.cell 5 _ rfl
   have hbw := below_two bw5 hbr
   by_cases hlt : k < K.length
   · have hlt' : (k : Int) < (K.length : Int) := by omega
     have hk0 : (0 : Int) ≤ (k : Int) := by omega
     obtain ⟨b, off, sa, sc, hak, hbl, d0, d13, sm⟩ := hK.at hbw k hlt
     subst hak
     obtain ⟨c, hc⟩ : ∃ c, K[k] = c := ⟨_, rfl⟩
     have HX : Hid (K[k] = c) := hc
     have hxs : c.xs.length ≤ maxLen := by rw [← hc]; exact sK _ (List.getElem_mem hlt)
     rw [hc] at d0 d13 sm
     clear hc
     have hblr : b < wr.heap.size := Nat.lt_of_lt_of_le hbl hbw.size
     cases h7 : conB T L.length c
     · have HE : Hid (engB A nx T O P L K = false) := eg_false (fun h => by have q := h.con k hlt; rw [HX.out, h7] at q; cases q)
       have HS : Hid (∀ x, Below wr.heap.size wr x → x.cell? ⟨w.heap.size, 0, none⟩ = some (.int .i64 A) ∧ x.cell? ⟨w.heap.size, 1, none⟩ = some (.slice aT T.length cT) ∧ x.cell? ⟨w.heap.size, 2, none⟩ = some (.slice (some ⟨bo, oo, none⟩) O.length cO) ∧ x.cell? ⟨w.heap.size, 3, none⟩ = some (.slice aP P.length cP) ∧ x.cell? ⟨w.heap.size, 4, none⟩ = some (.slice aL L.length cL) ∧ x.cell? ⟨w.heap.size, 5, none⟩ = some (.slice (some ⟨b, off, none⟩) K.length cK) ∧ x.cell? ⟨w.heap.size, 6, none⟩ = some (.int .i64 nx) ∧ x.cell? ⟨b, off + k * 14, none⟩ = some (.int .i64 c.id) ∧ x.cell? ⟨b, off + k * 14 + 1, none⟩ = some (.int .i64 c.lf) ∧ x.cell? ⟨b, off + k * 14 + 2, none⟩ = some (.int .i64 c.pl) ∧ x.cell? ⟨b, off + k * 14 + 3, none⟩ = some (.int .i64 c.k) ∧ x.cell? ⟨b, off + k * 14 + 4, none⟩ = some (.int .i64 c.wn) ∧ x.cell? ⟨b, off + k * 14 + 5, none⟩ = some (.int .i64 c.th) ∧ x.cell? ⟨b, off + k * 14 + 6, none⟩ = some (.int .i64 c.fl) ∧ x.cell? ⟨b, off + k * 14 + 7, none⟩ = some (.int .i64 c.ac) ∧ x.cell? ⟨b, off + k * 14 + 8, none⟩ = some (.int .i64 c.la) ∧ x.cell? ⟨b, off + k * 14 + 9, none⟩ = some (.int .i64 c.og) ∧ x.cell? ⟨b, off + k * 14 + 10, none⟩ = some (.int .i64 c.st) ∧ x.cell? ⟨b, off + k * 14 + 11, none⟩ = some (.int .i64 c.fr) ∧ x.cell? ⟨b, off + k * 14 + 12, none⟩ = some (.bool c.sl) ∧ x.cell? ⟨b, off + k * 14 + 13, none⟩ = some (.slice sa c.xs.length sc)) := fun x hx => ⟨(M.next hx).cell 0 _ rfl, (M.next hx).cell 1 _ rfl, (M.next hx).cell 2 _ rfl, (M.next hx).cell 3 _ rfl, (M.next hx).cell 4 _ rfl, (M.next hx).cell 5 _ rfl, (M.next hx).cell 6 _ rfl, (hx.cell (by exact hblr)).trans (d0 0 _ rfl), (hx.cell (by exact hblr)).trans (d0 1 _ rfl), (hx.cell (by exact hblr)).trans (d0 2 _ rfl), (hx.cell (by exact hblr)).trans (d0 3 _ rfl), (hx.cell (by exact hblr)).trans (d0 4 _ rfl), (hx.cell (by exact hblr)).trans (d0 5 _ rfl), (hx.cell (by exact hblr)).trans (d0 6 _ rfl), (hx.cell (by exact hblr)).trans (d0 7 _ rfl), (hx.cell (by exact hblr)).trans (d0 8 _ rfl), (hx.cell (by exact hblr)).trans (d0 9 _ rfl), (hx.cell (by exact hblr)).trans (d0 10 _ rfl), (hx.cell (by exact hblr)).trans (d0 11 _ rfl), (hx.cell (by exact hblr)).trans (d0 12 _ rfl), (hx.cell (by exact hblr)).trans d13⟩
       go_upto_region 6 with (fail)
       refine wp_region_held_drew (S := fun w' => w'.cell? ⟨w.heap.size, 0, none⟩ = some (.int .i64 A) ∧ w'.cell? ⟨w.heap.size, 1, none⟩ = some (.slice aT T.length cT) ∧ w'.cell? ⟨w.heap.size, 2, none⟩ = some (.slice (some ⟨bo, oo, none⟩) O.length cO) ∧ w'.cell? ⟨w.heap.size, 3, none⟩ = some (.slice aP P.length cP) ∧ w'.cell? ⟨w.heap.size, 4, none⟩ = some (.slice aL L.length cL) ∧ w'.cell? ⟨w.heap.size, 5, none⟩ = some (.slice (some ⟨b, off, none⟩) K.length cK) ∧ w'.cell? ⟨w.heap.size, 6, none⟩ = some (.int .i64 nx) ∧ w'.cell? ⟨b, off + k * 14, none⟩ = some (.int .i64 c.id) ∧ w'.cell? ⟨b, off + k * 14 + 1, none⟩ = some (.int .i64 c.lf) ∧ w'.cell? ⟨b, off + k * 14 + 2, none⟩ = some (.int .i64 c.pl) ∧ w'.cell? ⟨b, off + k * 14 + 3, none⟩ = some (.int .i64 c.k) ∧ w'.cell? ⟨b, off + k * 14 + 4, none⟩ = some (.int .i64 c.wn) ∧ w'.cell? ⟨b, off + k * 14 + 5, none⟩ = some (.int .i64 c.th) ∧ w'.cell? ⟨b, off + k * 14 + 6, none⟩ = some (.int .i64 c.fl) ∧ w'.cell? ⟨b, off + k * 14 + 7, none⟩ = some (.int .i64 c.ac) ∧ w'.cell? ⟨b, off + k * 14 + 8, none⟩ = some (.int .i64 c.la) ∧ w'.cell? ⟨b, off + k * 14 + 9, none⟩ = some (.int .i64 c.og) ∧ w'.cell? ⟨b, off + k * 14 + 10, none⟩ = some (.int .i64 c.st) ∧ w'.cell? ⟨b, off + k * 14 + 11, none⟩ = some (.int .i64 c.fr) ∧ w'.cell? ⟨b, off + k * 14 + 12, none⟩ = some (.bool c.sl) ∧ w'.cell? ⟨b, off + k * 14 + 13, none⟩ = some (.slice sa c.xs.length sc)) (by kernel_rfl) (HS.out _ (Below.refl _ _).drew) (fun hS => ?_)
       refine anyR 0 rfl ?_
       refine anyR 1 rfl ?_
       refine anyR 2 rfl ?_
       refine anyR 3 rfl ?_
       refine anyR 4 rfl ?_
       refine anyR 5 rfl ?_
       refine anyC 6 rfl fun Kr hKr => ?_
       go_simp
       (refine (specConn_any (nL := L.length) A nx c (hT.here (hbw.drew)) mT mL ((sm.up hbw.size).here (Below.refl _ _).drew) hxs).mono ?_; rw [h7]; rintro e w7 ⟨rfl, hb7⟩; have hb7 := undrewE hb7; have hS7 := HS.out _ hb7)
       refine hKr.out _ _ ‹_› fun _ => ?_
       try simp only [nrm]
       refine anyR 7 rfl ?_
       refine anyR 8 rfl ?_
       refine anyS 9 rfl ?_
       refine anyS 10 rfl ?_
       refine anyS 11 rfl ?_
       refine anyS 12 rfl ?_
       refine anyS 13 rfl ?_
       refine anyS 14 rfl ?_
       refine anyS 15 rfl ?_
       refine anyS 16 rfl ?_
       refine anyS 17 rfl ?_
       refine anyS 18 rfl ?_
       refine anyS 19 rfl ?_
       refine anyS 20 rfl ?_
       refine anyS 21 rfl ?_
       refine anyS 22 rfl ?_
       refine anyS 23 rfl ?_
       refine anyS 24 rfl ?_
       refine anyS 25 rfl ?_
       refine anyS 26 rfl ?_
       refine anyR 27 rfl ?_
       refine wpAnyH_done (by kernel_rfl) ?_ _
       go_wp2
       go_ret
       exact ⟨retC HE.out.symm, below_two hbw hb7⟩
     have HC' : Hid (∀ j (h : j < K.length), j < k + 1 → conB T L.length K[j] = true) := fun j hj hjk => by
       by_cases e : j = k
       · subst e; rw [HX.out]; exact h7
       · exact HC.out j hj (by omega)
     by_cases hz : k = 0
     · subst hz
       have hz0 : ¬ ((0 : Int) < ((0 : Nat) : Int)) := by omega
       have HS : Hid (∀ x, Below wr.heap.size wr x → x.cell? ⟨w.heap.size, 0, none⟩ = some (.int .i64 A) ∧ x.cell? ⟨w.heap.size, 1, none⟩ = some (.slice aT T.length cT) ∧ x.cell? ⟨w.heap.size, 2, none⟩ = some (.slice (some ⟨bo, oo, none⟩) O.length cO) ∧ x.cell? ⟨w.heap.size, 3, none⟩ = some (.slice aP P.length cP) ∧ x.cell? ⟨w.heap.size, 4, none⟩ = some (.slice aL L.length cL) ∧ x.cell? ⟨w.heap.size, 5, none⟩ = some (.slice (some ⟨b, off, none⟩) K.length cK) ∧ x.cell? ⟨w.heap.size, 6, none⟩ = some (.int .i64 nx) ∧ x.cell? ⟨b, off, none⟩ = some (.int .i64 c.id) ∧ x.cell? ⟨b, off + 1, none⟩ = some (.int .i64 c.lf) ∧ x.cell? ⟨b, off + 2, none⟩ = some (.int .i64 c.pl) ∧ x.cell? ⟨b, off + 3, none⟩ = some (.int .i64 c.k) ∧ x.cell? ⟨b, off + 4, none⟩ = some (.int .i64 c.wn) ∧ x.cell? ⟨b, off + 5, none⟩ = some (.int .i64 c.th) ∧ x.cell? ⟨b, off + 6, none⟩ = some (.int .i64 c.fl) ∧ x.cell? ⟨b, off + 7, none⟩ = some (.int .i64 c.ac) ∧ x.cell? ⟨b, off + 8, none⟩ = some (.int .i64 c.la) ∧ x.cell? ⟨b, off + 9, none⟩ = some (.int .i64 c.og) ∧ x.cell? ⟨b, off + 10, none⟩ = some (.int .i64 c.st) ∧ x.cell? ⟨b, off + 11, none⟩ = some (.int .i64 c.fr) ∧ x.cell? ⟨b, off + 12, none⟩ = some (.bool c.sl) ∧ x.cell? ⟨b, off + 13, none⟩ = some (.slice sa c.xs.length sc)) := fun x hx => ⟨(M.next hx).cell 0 _ rfl, (M.next hx).cell 1 _ rfl, (M.next hx).cell 2 _ rfl, (M.next hx).cell 3 _ rfl, (M.next hx).cell 4 _ rfl, (M.next hx).cell 5 _ rfl, (M.next hx).cell 6 _ rfl, (hx.cell (by exact hblr)).trans (by have q := d0 0 _ rfl; rw [Nat.zero_mul, Nat.add_zero] at q; exact q), (hx.cell (by exact hblr)).trans (by have q := d0 1 _ rfl; rw [Nat.zero_mul, Nat.add_zero] at q; exact q), (hx.cell (by exact hblr)).trans (by have q := d0 2 _ rfl; rw [Nat.zero_mul, Nat.add_zero] at q; exact q), (hx.cell (by exact hblr)).trans (by have q := d0 3 _ rfl; rw [Nat.zero_mul, Nat.add_zero] at q; exact q), (hx.cell (by exact hblr)).trans (by have q := d0 4 _ rfl; rw [Nat.zero_mul, Nat.add_zero] at q; exact q), (hx.cell (by exact hblr)).trans (by have q := d0 5 _ rfl; rw [Nat.zero_mul, Nat.add_zero] at q; exact q), (hx.cell (by exact hblr)).trans (by have q := d0 6 _ rfl; rw [Nat.zero_mul, Nat.add_zero] at q; exact q), (hx.cell (by exact hblr)).trans (by have q := d0 7 _ rfl; rw [Nat.zero_mul, Nat.add_zero] at q; exact q), (hx.cell (by exact hblr)).trans (by have q := d0 8 _ rfl; rw [Nat.zero_mul, Nat.add_zero] at q; exact q), (hx.cell (by exact hblr)).trans (by have q := d0 9 _ rfl; rw [Nat.zero_mul, Nat.add_zero] at q; exact q), (hx.cell (by exact hblr)).trans (by have q := d0 10 _ rfl; rw [Nat.zero_mul, Nat.add_zero] at q; exact q), (hx.cell (by exact hblr)).trans (by have q := d0 11 _ rfl; rw [Nat.zero_mul, Nat.add_zero] at q; exact q), (hx.cell (by exact hblr)).trans (by have q := d0 12 _ rfl; rw [Nat.zero_mul, Nat.add_zero] at q; exact q), (hx.cell (by exact hblr)).trans (by have q := d13; rw [Nat.zero_mul, Nat.add_zero] at q; exact q)⟩
       go_upto_region 6 with (fail)
       refine wp_region_held_drew (S := fun w' => w'.cell? ⟨w.heap.size, 0, none⟩ = some (.int .i64 A) ∧ w'.cell? ⟨w.heap.size, 1, none⟩ = some (.slice aT T.length cT) ∧ w'.cell? ⟨w.heap.size, 2, none⟩ = some (.slice (some ⟨bo, oo, none⟩) O.length cO) ∧ w'.cell? ⟨w.heap.size, 3, none⟩ = some (.slice aP P.length cP) ∧ w'.cell? ⟨w.heap.size, 4, none⟩ = some (.slice aL L.length cL) ∧ w'.cell? ⟨w.heap.size, 5, none⟩ = some (.slice (some ⟨b, off, none⟩) K.length cK) ∧ w'.cell? ⟨w.heap.size, 6, none⟩ = some (.int .i64 nx) ∧ w'.cell? ⟨b, off, none⟩ = some (.int .i64 c.id) ∧ w'.cell? ⟨b, off + 1, none⟩ = some (.int .i64 c.lf) ∧ w'.cell? ⟨b, off + 2, none⟩ = some (.int .i64 c.pl) ∧ w'.cell? ⟨b, off + 3, none⟩ = some (.int .i64 c.k) ∧ w'.cell? ⟨b, off + 4, none⟩ = some (.int .i64 c.wn) ∧ w'.cell? ⟨b, off + 5, none⟩ = some (.int .i64 c.th) ∧ w'.cell? ⟨b, off + 6, none⟩ = some (.int .i64 c.fl) ∧ w'.cell? ⟨b, off + 7, none⟩ = some (.int .i64 c.ac) ∧ w'.cell? ⟨b, off + 8, none⟩ = some (.int .i64 c.la) ∧ w'.cell? ⟨b, off + 9, none⟩ = some (.int .i64 c.og) ∧ w'.cell? ⟨b, off + 10, none⟩ = some (.int .i64 c.st) ∧ w'.cell? ⟨b, off + 11, none⟩ = some (.int .i64 c.fr) ∧ w'.cell? ⟨b, off + 12, none⟩ = some (.bool c.sl) ∧ w'.cell? ⟨b, off + 13, none⟩ = some (.slice sa c.xs.length sc)) (by kernel_rfl) (HS.out _ (Below.refl _ _).drew) (fun hS => ?_)
       refine anyR 0 rfl ?_
       refine anyR 1 rfl ?_
       refine anyR 2 rfl ?_
       refine anyR 3 rfl ?_
       refine anyR 4 rfl ?_
       refine anyR 5 rfl ?_
       refine anyC 6 rfl fun Kr hKr => ?_
       go_simp
       (refine (specConn_any (nL := L.length) A nx c (hT.here (hbw.drew)) mT mL ((sm.up hbw.size).here (Below.refl _ _).drew) hxs).mono ?_; rw [h7]; rintro e w7 ⟨rfl, hb7⟩; have hb7 := undrewE hb7; have hS7 := HS.out _ hb7)
       refine hKr.out _ _ ‹_› fun _ => ?_
       try simp only [nrm]
       refine anyR 7 rfl ?_
       refine anyR 8 rfl ?_
       refine anyR 9 rfl ?_
       refine anyR 10 rfl ?_
       refine anyR 11 rfl ?_
       refine anyS 12 rfl ?_
       refine anyS 13 rfl ?_
       refine anyS 14 rfl ?_
       refine anyS 15 rfl ?_
       refine anyS 16 rfl ?_
       refine anyS 17 rfl ?_
       refine anyS 18 rfl ?_
       refine anyS 19 rfl ?_
       refine anyS 20 rfl ?_
       refine anyS 21 rfl ?_
       refine anyS 22 rfl ?_
       refine anyS 23 rfl ?_
       refine anyS 24 rfl ?_
       refine anyS 25 rfl ?_
       refine anyR 26 rfl ?_
       refine anyR 27 rfl ?_
       refine wpAnyH_done (by kernel_rfl) ?_ _
       go_wp2
       go_roundw
       case rel => exact ⟨1, by go_num, by omega, HC', (fun j h h' k => by omega), below_two hbr hb7⟩
       case measure => first | (simp [intOf]; done) | (simp [intOf]; omega)
     obtain ⟨l, hl⟩ : ∃ l, k = l + 1 := ⟨k - 1, by omega⟩
     have HL1 : Hid (k = l + 1) := hl
     have hl1 : IntKind.i64.wrap ((k : Int) - 1) = (l : Int) := by rw [IntKind.wrap_i64]; omega
     have hl0 : (0 : Int) ≤ (l : Int) := by omega
     have hl3 : (l : Int) < (K.length : Int) := by omega
     have hl4 : (0 : Int) < (k : Int) := by omega
     have hl4n : 0 < k := by omega
     have hlk : l < K.length := by omega
     clear hl hz
     obtain ⟨b', off', sa', sc', hak', _, f0, _, _⟩ := hK.at hbw l hlk
     injection hak' with hak'
     injection hak' with ek1 ek2
     subst ek1 ek2
     obtain ⟨z, hzz⟩ : ∃ z, K[l].id = z := ⟨_, rfl⟩
     have HZ : Hid (K[l].id = z) := hzz
     have f0 : wr.cell? ⟨b, off + l * 14, none⟩ = some (.int .i64 z) := by rw [← hzz]; exact f0 0 _ rfl
     clear hzz
     by_cases h8 : c.id ≤ z
     · have HE : Hid (engB A nx T O P L K = false) := eg_false (fun h => by have q := h.rise l hlk (by have := HL1.out; omega); have e1 : K[l + 1]'(by have := HL1.out; omega) = c := (by have e := HL1.out; subst e; exact HX.out); rw [e1, HZ.out] at q; omega)
       have HS : Hid (∀ x, Below wr.heap.size wr x → x.cell? ⟨w.heap.size, 0, none⟩ = some (.int .i64 A) ∧ x.cell? ⟨w.heap.size, 1, none⟩ = some (.slice aT T.length cT) ∧ x.cell? ⟨w.heap.size, 2, none⟩ = some (.slice (some ⟨bo, oo, none⟩) O.length cO) ∧ x.cell? ⟨w.heap.size, 3, none⟩ = some (.slice aP P.length cP) ∧ x.cell? ⟨w.heap.size, 4, none⟩ = some (.slice aL L.length cL) ∧ x.cell? ⟨w.heap.size, 5, none⟩ = some (.slice (some ⟨b, off, none⟩) K.length cK) ∧ x.cell? ⟨w.heap.size, 6, none⟩ = some (.int .i64 nx) ∧ x.cell? ⟨b, off + k * 14, none⟩ = some (.int .i64 c.id) ∧ x.cell? ⟨b, off + k * 14 + 1, none⟩ = some (.int .i64 c.lf) ∧ x.cell? ⟨b, off + k * 14 + 2, none⟩ = some (.int .i64 c.pl) ∧ x.cell? ⟨b, off + k * 14 + 3, none⟩ = some (.int .i64 c.k) ∧ x.cell? ⟨b, off + k * 14 + 4, none⟩ = some (.int .i64 c.wn) ∧ x.cell? ⟨b, off + k * 14 + 5, none⟩ = some (.int .i64 c.th) ∧ x.cell? ⟨b, off + k * 14 + 6, none⟩ = some (.int .i64 c.fl) ∧ x.cell? ⟨b, off + k * 14 + 7, none⟩ = some (.int .i64 c.ac) ∧ x.cell? ⟨b, off + k * 14 + 8, none⟩ = some (.int .i64 c.la) ∧ x.cell? ⟨b, off + k * 14 + 9, none⟩ = some (.int .i64 c.og) ∧ x.cell? ⟨b, off + k * 14 + 10, none⟩ = some (.int .i64 c.st) ∧ x.cell? ⟨b, off + k * 14 + 11, none⟩ = some (.int .i64 c.fr) ∧ x.cell? ⟨b, off + k * 14 + 12, none⟩ = some (.bool c.sl) ∧ x.cell? ⟨b, off + k * 14 + 13, none⟩ = some (.slice sa c.xs.length sc) ∧ x.cell? ⟨b, off + l * 14, none⟩ = some (.int .i64 z)) := fun x hx => ⟨(M.next hx).cell 0 _ rfl, (M.next hx).cell 1 _ rfl, (M.next hx).cell 2 _ rfl, (M.next hx).cell 3 _ rfl, (M.next hx).cell 4 _ rfl, (M.next hx).cell 5 _ rfl, (M.next hx).cell 6 _ rfl, (hx.cell (by exact hblr)).trans (d0 0 _ rfl), (hx.cell (by exact hblr)).trans (d0 1 _ rfl), (hx.cell (by exact hblr)).trans (d0 2 _ rfl), (hx.cell (by exact hblr)).trans (d0 3 _ rfl), (hx.cell (by exact hblr)).trans (d0 4 _ rfl), (hx.cell (by exact hblr)).trans (d0 5 _ rfl), (hx.cell (by exact hblr)).trans (d0 6 _ rfl), (hx.cell (by exact hblr)).trans (d0 7 _ rfl), (hx.cell (by exact hblr)).trans (d0 8 _ rfl), (hx.cell (by exact hblr)).trans (d0 9 _ rfl), (hx.cell (by exact hblr)).trans (d0 10 _ rfl), (hx.cell (by exact hblr)).trans (d0 11 _ rfl), (hx.cell (by exact hblr)).trans (d0 12 _ rfl), (hx.cell (by exact hblr)).trans d13, (hx.cell (by exact hblr)).trans f0⟩
       go_upto_region 6 with (fail)
       refine wp_region_held_drew (S := fun w' => w'.cell? ⟨w.heap.size, 0, none⟩ = some (.int .i64 A) ∧ w'.cell? ⟨w.heap.size, 1, none⟩ = some (.slice aT T.length cT) ∧ w'.cell? ⟨w.heap.size, 2, none⟩ = some (.slice (some ⟨bo, oo, none⟩) O.length cO) ∧ w'.cell? ⟨w.heap.size, 3, none⟩ = some (.slice aP P.length cP) ∧ w'.cell? ⟨w.heap.size, 4, none⟩ = some (.slice aL L.length cL) ∧ w'.cell? ⟨w.heap.size, 5, none⟩ = some (.slice (some ⟨b, off, none⟩) K.length cK) ∧ w'.cell? ⟨w.heap.size, 6, none⟩ = some (.int .i64 nx) ∧ w'.cell? ⟨b, off + k * 14, none⟩ = some (.int .i64 c.id) ∧ w'.cell? ⟨b, off + k * 14 + 1, none⟩ = some (.int .i64 c.lf) ∧ w'.cell? ⟨b, off + k * 14 + 2, none⟩ = some (.int .i64 c.pl) ∧ w'.cell? ⟨b, off + k * 14 + 3, none⟩ = some (.int .i64 c.k) ∧ w'.cell? ⟨b, off + k * 14 + 4, none⟩ = some (.int .i64 c.wn) ∧ w'.cell? ⟨b, off + k * 14 + 5, none⟩ = some (.int .i64 c.th) ∧ w'.cell? ⟨b, off + k * 14 + 6, none⟩ = some (.int .i64 c.fl) ∧ w'.cell? ⟨b, off + k * 14 + 7, none⟩ = some (.int .i64 c.ac) ∧ w'.cell? ⟨b, off + k * 14 + 8, none⟩ = some (.int .i64 c.la) ∧ w'.cell? ⟨b, off + k * 14 + 9, none⟩ = some (.int .i64 c.og) ∧ w'.cell? ⟨b, off + k * 14 + 10, none⟩ = some (.int .i64 c.st) ∧ w'.cell? ⟨b, off + k * 14 + 11, none⟩ = some (.int .i64 c.fr) ∧ w'.cell? ⟨b, off + k * 14 + 12, none⟩ = some (.bool c.sl) ∧ w'.cell? ⟨b, off + k * 14 + 13, none⟩ = some (.slice sa c.xs.length sc) ∧ w'.cell? ⟨b, off + l * 14, none⟩ = some (.int .i64 z)) (by kernel_rfl) (HS.out _ (Below.refl _ _).drew) (fun hS => ?_)
       refine anyR 0 rfl ?_
       refine anyR 1 rfl ?_
       refine anyR 2 rfl ?_
       refine anyR 3 rfl ?_
       refine anyR 4 rfl ?_
       refine anyR 5 rfl ?_
       refine anyC 6 rfl fun Kr hKr => ?_
       go_simp
       (refine (specConn_any (nL := L.length) A nx c (hT.here (hbw.drew)) mT mL ((sm.up hbw.size).here (Below.refl _ _).drew) hxs).mono ?_; rw [h7]; rintro e w7 ⟨rfl, hb7⟩; have hb7 := undrewE hb7; have hS7 := HS.out _ hb7)
       refine hKr.out _ _ ‹_› fun _ => ?_
       try simp only [nrm]
       refine anyR 7 rfl ?_
       refine anyR 8 rfl ?_
       refine anyR 9 rfl ?_
       refine anyR 10 rfl ?_
       refine anyR 11 rfl ?_
       refine anyR 12 rfl ?_
       refine anyR 13 rfl ?_
       refine anyR 14 rfl ?_
       refine anyR 15 rfl ?_
       refine anyR 16 rfl ?_
       refine anyR 17 rfl ?_
       refine anyR 18 rfl ?_
       refine anyR 19 rfl ?_
       refine anyR 20 rfl ?_
       refine anyR 21 rfl ?_
       refine anyR 22 rfl ?_
       refine anyR 23 rfl ?_
       refine anyR 24 rfl ?_
       refine anyR 25 rfl ?_
       refine anyR 26 rfl ?_
       refine anyR 27 rfl ?_
       refine wpAnyH_done (by kernel_rfl) ?_ _
       go_wp2
       go_ret
       exact ⟨retC HE.out.symm, below_two hbw hb7⟩
     · have HR' : Hid (∀ j (h : j < K.length) (h' : j + 1 < K.length), j + 1 < k + 1 → K[j].id < K[j + 1].id) := fun j hj hj' hjk => by
         have e0 := HL1.out
         by_cases e : j = l
         · subst e
           have e1 : K[j + 1] = c := by subst e0; exact HX.out
           rw [e1, HZ.out]
           omega
         · exact HR.out j hj hj' (by omega)
       have HS : Hid (∀ x, Below wr.heap.size wr x → x.cell? ⟨w.heap.size, 0, none⟩ = some (.int .i64 A) ∧ x.cell? ⟨w.heap.size, 1, none⟩ = some (.slice aT T.length cT) ∧ x.cell? ⟨w.heap.size, 2, none⟩ = some (.slice (some ⟨bo, oo, none⟩) O.length cO) ∧ x.cell? ⟨w.heap.size, 3, none⟩ = some (.slice aP P.length cP) ∧ x.cell? ⟨w.heap.size, 4, none⟩ = some (.slice aL L.length cL) ∧ x.cell? ⟨w.heap.size, 5, none⟩ = some (.slice (some ⟨b, off, none⟩) K.length cK) ∧ x.cell? ⟨w.heap.size, 6, none⟩ = some (.int .i64 nx) ∧ x.cell? ⟨b, off + k * 14, none⟩ = some (.int .i64 c.id) ∧ x.cell? ⟨b, off + k * 14 + 1, none⟩ = some (.int .i64 c.lf) ∧ x.cell? ⟨b, off + k * 14 + 2, none⟩ = some (.int .i64 c.pl) ∧ x.cell? ⟨b, off + k * 14 + 3, none⟩ = some (.int .i64 c.k) ∧ x.cell? ⟨b, off + k * 14 + 4, none⟩ = some (.int .i64 c.wn) ∧ x.cell? ⟨b, off + k * 14 + 5, none⟩ = some (.int .i64 c.th) ∧ x.cell? ⟨b, off + k * 14 + 6, none⟩ = some (.int .i64 c.fl) ∧ x.cell? ⟨b, off + k * 14 + 7, none⟩ = some (.int .i64 c.ac) ∧ x.cell? ⟨b, off + k * 14 + 8, none⟩ = some (.int .i64 c.la) ∧ x.cell? ⟨b, off + k * 14 + 9, none⟩ = some (.int .i64 c.og) ∧ x.cell? ⟨b, off + k * 14 + 10, none⟩ = some (.int .i64 c.st) ∧ x.cell? ⟨b, off + k * 14 + 11, none⟩ = some (.int .i64 c.fr) ∧ x.cell? ⟨b, off + k * 14 + 12, none⟩ = some (.bool c.sl) ∧ x.cell? ⟨b, off + k * 14 + 13, none⟩ = some (.slice sa c.xs.length sc) ∧ x.cell? ⟨b, off + l * 14, none⟩ = some (.int .i64 z)) := fun x hx => ⟨(M.next hx).cell 0 _ rfl, (M.next hx).cell 1 _ rfl, (M.next hx).cell 2 _ rfl, (M.next hx).cell 3 _ rfl, (M.next hx).cell 4 _ rfl, (M.next hx).cell 5 _ rfl, (M.next hx).cell 6 _ rfl, (hx.cell (by exact hblr)).trans (d0 0 _ rfl), (hx.cell (by exact hblr)).trans (d0 1 _ rfl), (hx.cell (by exact hblr)).trans (d0 2 _ rfl), (hx.cell (by exact hblr)).trans (d0 3 _ rfl), (hx.cell (by exact hblr)).trans (d0 4 _ rfl), (hx.cell (by exact hblr)).trans (d0 5 _ rfl), (hx.cell (by exact hblr)).trans (d0 6 _ rfl), (hx.cell (by exact hblr)).trans (d0 7 _ rfl), (hx.cell (by exact hblr)).trans (d0 8 _ rfl), (hx.cell (by exact hblr)).trans (d0 9 _ rfl), (hx.cell (by exact hblr)).trans (d0 10 _ rfl), (hx.cell (by exact hblr)).trans (d0 11 _ rfl), (hx.cell (by exact hblr)).trans (d0 12 _ rfl), (hx.cell (by exact hblr)).trans d13, (hx.cell (by exact hblr)).trans f0⟩
       go_upto_region 6 with (fail)
       refine wp_region_held_drew (S := fun w' => w'.cell? ⟨w.heap.size, 0, none⟩ = some (.int .i64 A) ∧ w'.cell? ⟨w.heap.size, 1, none⟩ = some (.slice aT T.length cT) ∧ w'.cell? ⟨w.heap.size, 2, none⟩ = some (.slice (some ⟨bo, oo, none⟩) O.length cO) ∧ w'.cell? ⟨w.heap.size, 3, none⟩ = some (.slice aP P.length cP) ∧ w'.cell? ⟨w.heap.size, 4, none⟩ = some (.slice aL L.length cL) ∧ w'.cell? ⟨w.heap.size, 5, none⟩ = some (.slice (some ⟨b, off, none⟩) K.length cK) ∧ w'.cell? ⟨w.heap.size, 6, none⟩ = some (.int .i64 nx) ∧ w'.cell? ⟨b, off + k * 14, none⟩ = some (.int .i64 c.id) ∧ w'.cell? ⟨b, off + k * 14 + 1, none⟩ = some (.int .i64 c.lf) ∧ w'.cell? ⟨b, off + k * 14 + 2, none⟩ = some (.int .i64 c.pl) ∧ w'.cell? ⟨b, off + k * 14 + 3, none⟩ = some (.int .i64 c.k) ∧ w'.cell? ⟨b, off + k * 14 + 4, none⟩ = some (.int .i64 c.wn) ∧ w'.cell? ⟨b, off + k * 14 + 5, none⟩ = some (.int .i64 c.th) ∧ w'.cell? ⟨b, off + k * 14 + 6, none⟩ = some (.int .i64 c.fl) ∧ w'.cell? ⟨b, off + k * 14 + 7, none⟩ = some (.int .i64 c.ac) ∧ w'.cell? ⟨b, off + k * 14 + 8, none⟩ = some (.int .i64 c.la) ∧ w'.cell? ⟨b, off + k * 14 + 9, none⟩ = some (.int .i64 c.og) ∧ w'.cell? ⟨b, off + k * 14 + 10, none⟩ = some (.int .i64 c.st) ∧ w'.cell? ⟨b, off + k * 14 + 11, none⟩ = some (.int .i64 c.fr) ∧ w'.cell? ⟨b, off + k * 14 + 12, none⟩ = some (.bool c.sl) ∧ w'.cell? ⟨b, off + k * 14 + 13, none⟩ = some (.slice sa c.xs.length sc) ∧ w'.cell? ⟨b, off + l * 14, none⟩ = some (.int .i64 z)) (by kernel_rfl) (HS.out _ (Below.refl _ _).drew) (fun hS => ?_)
       refine anyR 0 rfl ?_
       refine anyR 1 rfl ?_
       refine anyR 2 rfl ?_
       refine anyR 3 rfl ?_
       refine anyR 4 rfl ?_
       refine anyR 5 rfl ?_
       refine anyC 6 rfl fun Kr hKr => ?_
       go_simp
       (refine (specConn_any (nL := L.length) A nx c (hT.here (hbw.drew)) mT mL ((sm.up hbw.size).here (Below.refl _ _).drew) hxs).mono ?_; rw [h7]; rintro e w7 ⟨rfl, hb7⟩; have hb7 := undrewE hb7; have hS7 := HS.out _ hb7)
       refine hKr.out _ _ ‹_› fun _ => ?_
       try simp only [nrm]
       refine anyR 7 rfl ?_
       refine anyR 8 rfl ?_
       refine anyR 9 rfl ?_
       refine anyR 10 rfl ?_
       refine anyR 11 rfl ?_
       refine anyR 12 rfl ?_
       refine anyR 13 rfl ?_
       refine anyR 14 rfl ?_
       refine anyR 15 rfl ?_
       refine anyR 16 rfl ?_
       refine anyR 17 rfl ?_
       refine anyR 18 rfl ?_
       refine anyR 19 rfl ?_
       refine anyR 20 rfl ?_
       refine anyR 21 rfl ?_
       refine anyR 22 rfl ?_
       refine anyR 23 rfl ?_
       refine anyR 24 rfl ?_
       refine anyR 25 rfl ?_
       refine anyR 26 rfl ?_
       refine anyR 27 rfl ?_
       refine wpAnyH_done (by kernel_rfl) ?_ _
       go_wp2
       go_roundw
       case rel => exact ⟨k + 1, by go_num, by omega, HC', HR', below_two hbr hb7⟩
       case measure => first | (simp [intOf]; done) | (simp [intOf]; omega)
   · have e : k = K.length := by omega
     subst e
     have HC1 : Hid (∀ j (h : j < K.length), conB T L.length K[j] = true) := fun j h => HC.out j h h
     have HR1 : Hid (∀ j (h : j < K.length) (h' : j + 1 < K.length), K[j].id < K[j + 1].id) := fun j h h' => HR.out j h h' h'
     clear HC HR
     go_wp2
     have HC2 : Hid (∀ c ∈ K, 0 ≤ c.fl ∧ c.fl ≤ 1000000000) := fun c hc => by
       obtain ⟨i, hi, rfl⟩ := List.mem_iff_getElem.1 hc
       exact kc_fl (HC1.out i hi)
     clear c5 hlt
     go_loopw [4] (fun i wq => ∃ p : Nat, i = .int .i64 p ∧ p ≤ L.length ∧ Hid (∀ q (h : q < L.length), q < p → plB L[q].1 L[q].2.1 L[q].2.2 = true ∧ L[q].2.1 = flK (atP K q) ∧ L[q].2.2 = idsK (atP K q)) ∧ Below wr.heap.size wr wq) (fun i _ => L.length - (intOf i).toNat)
     case atStart => exact ⟨0, rfl, by omega, (fun j h k => by omega), Below.refl _ _⟩
     case round =>
       obtain ⟨p, rfl, hp, HP, hbr2⟩ := hrel
       have N := M.next hbr2
       have hbx := below_two hbw hbr2
       have c4 : wr.cell? ⟨w.heap.size, 4, none⟩ = some (.slice aL L.length cL) := N.cell 4 _ rfl
       by_cases hlt : p < L.length
       · have hlt' : (p : Int) < (L.length : Int) := by omega
         have hp0 : (0 : Int) ≤ (p : Int) := by omega
         obtain ⟨b, off, sa, sc, hal, hbl, d0, d1, d2, sm⟩ := hL.at hbx p hlt
         subst hal
         obtain ⟨wd, fl, xs, hx⟩ : ∃ wd fl xs, L[p] = (wd, fl, xs) := ⟨_, _, _, rfl⟩
         have HX : Hid (L[p] = (wd, fl, xs)) := hx
         rw [hx] at d0 d1 d2 sm
         clear hx
         simp only at d0 d1 d2 sm
         cases h8 : plB wd fl xs
         · have HE : Hid (engB A nx T O P L K = false) := eg_false (fun h => by have q := (h.pl p hlt).1; rw [HX.out] at q; simp only at q; rw [h8] at q; cases q)
           go_wp2_with (first | (go_at_call 69; refine (specPlaceOk_any sc (sm.up hbx.size)).mono ?_; rw [h8]; rintro e w8 ⟨rfl, hb8⟩))
           go_ret
           exact ⟨retC HE.out.symm, below_two hbx hb8⟩
         have hxl : xs.length ≤ 50 := (pl_yes h8).2.2.1
         have hfl : 0 ≤ fl ∧ fl ≤ 1000000000 := by
           have q := (pl_yes h8).2.1
           unfold w10B at q
           simp only [Bool.and_eq_true, decide_eq_true_eq] at q
           exact q
         have hbz : b < wr.heap.size := Nat.lt_of_lt_of_le hbl hbx.size
         go_wp2_with (first | (go_at_call 69; refine (specPlaceOk_any sc (sm.up hbx.size)).mono ?_; rw [h8]; rintro e w8 ⟨rfl, hb8⟩))
         have N8 := N.next hb8
         have hb8w := below_two hbx hb8
         have z8 := hb8w.size
         have e1 := (hb8.cell (p := ⟨b, off + p * 3 + 1, none⟩) hbz).trans d1
         have e2 := (hb8.cell (p := ⟨b, off + p * 3 + 2, none⟩) hbz).trans d2
         have hbz8 : b < w8.heap.size := Nat.lt_of_lt_of_le hbz hb8.size
         have sm8 := sm.mono (hb8.mono hbx.size)
         clear d0 d1 d2 c4 sm
         go_loopw [5, 6, 7] (fun s5 s6 s7 wq => ∃ k : Nat, s7 = .int .i64 k ∧ k ≤ K.length ∧ s6 = .int .i64 (flK (atP (K.take k) p)) ∧ Hid (wq.ownsRow w8.heap.size 2 1 s5 (atP (K.take k) p).length (flatI (idsK (atP (K.take k) p)))) ∧ Below w8.heap.size w8 wq) (fun _ _ s7 _ => K.length - (intOf s7).toNat)
         case atStart => exact ⟨0, rfl, by omega, rfl, own_none1 w8 w8.heap.size _ rfl (Nat.le_refl _) _, by go_grown⟩
         case round =>
           obtain ⟨k, rfl, hk, rfl, HO, hbr3⟩ := hrel
           have Q := N8.next hbr3
           have hby := below_two hb8w hbr3
           have zy := hby.size
           have z3 := hbr3.size
           have c5 : wr.cell? ⟨w.heap.size, 5, none⟩ = some (.slice aK K.length cK) := Q.cell 5 _ rfl
           obtain ⟨av, cv, hsv⟩ := own_slice HO.out
           subst hsv
           by_cases hltk : k < K.length
           · have hlt2 : (k : Int) < (K.length : Int) := by omega
             obtain ⟨bk, offk, sak, sck, hak, hbk, f0, -, -⟩ := hK k hltk
             subst hak
             obtain ⟨c, hc⟩ : ∃ c, K[k] = c := ⟨_, rfl⟩
             have HX2 : Hid (K[k] = c) := hc
             rw [hc] at f0
             clear hc
             have i0 : w.cell? ⟨bk, offk + k * 14, none⟩ = some (.int .i64 c.id) := f0 0 _ rfl
             have i2 : w.cell? ⟨bk, offk + k * 14 + 2, none⟩ = some (.int .i64 c.pl) := f0 2 _ rfl
             have i6 : w.cell? ⟨bk, offk + k * 14 + 6, none⟩ = some (.int .i64 c.fl) := f0 6 _ rfl
             have g0 := (hby.cell (p := ⟨bk, offk + k * 14, none⟩) hbk).trans i0
             have g2 := (hby.cell (p := ⟨bk, offk + k * 14 + 2, none⟩) hbk).trans i2
             have HI6 : Hid (w.cell? ⟨bk, offk + k * 14 + 6, none⟩ = some (.int .i64 c.fl)) := i6
             clear i0 i2 i6
             clear f0
             obtain ⟨s, hs⟩ : ∃ s, flK (atP (K.take k) p) = s := ⟨_, rfl⟩
             have HSS : Hid (flK (atP (K.take k) p) = s) := hs
             rw [hs]
             by_cases hpl : c.pl = p
             · have HA1 : Hid (atP (K.take (k + 1)) p = atP (K.take k) p ++ [c]) := by
                 have q := atP_yes hltk (p := (p : Int)) (by rw [HX2.out]; exact hpl)
                 rw [HX2.out] at q
                 exact q
               have HNL : Hid ((atP (K.take k) p).length ≤ 40) := by
                 have q := atP_le (K.take k) p
                 rw [List.length_take] at q
                 show _ ≤ 40
                 omega
               have hs1 : 0 ≤ s ∧ s ≤ 1000000000 * 40 := by
                 have q := flK_bd2 (K := atP (K.take k) p) (fun x hx => HC2.out x (List.mem_of_mem_take (List.mem_filter.1 hx).1)) HNL.out
                 rw [hs] at q
                 exact q
               have hc1 : 0 ≤ c.fl ∧ c.fl ≤ 1000000000 := by
                 have q := HC2.out K[k] (List.getElem_mem hltk)
                 rw [HX2.out] at q
                 exact q
               have hwr : IntKind.i64.wrap (s + c.fl) = s + c.fl := by rw [IntKind.wrap_i64]; omega
               clear hs hs1 hc1
               rw [hpl] at g2
               clear hpl
               have HOn := HO.out
               obtain ⟨n, hn⟩ : ∃ n, (atP (K.take k) p).length = n := ⟨_, rfl⟩
               have HN1 : Hid ((atP (K.take k) p).length = n) := hn
               have hn40 : n ≤ 40 := by rw [← hn]; exact HNL.out
               rw [hn] at HOn
               rw [hn]
               clear hn
               go_wp2_with (first
                 | (at_builtin; refine wpList_append_own _ rfl _ _ 56 rfl w8.heap.size 2 j0 _ 1 8 Tryz.underlying56 hj jz0 jz1 jz2 rfl (by decide) _ _ _ rfl (HOn.alloc _) ⟨wr.heap.size, 0, none⟩ 1 1 [.int .i64 c.id] rfl rfl ?c1 ?c2 ?c3 ?c4 ?c5 ?c6; rotate_left 5; intro v' w' hown' hgr hnil; have hb2 := below_app hbr3 hgr (fun g hg => (HOn.lt g hg).1); have r5 : w'.cell? ⟨w.heap.size, 5, none⟩ = some (.slice (some ⟨bk, offk, none⟩) K.length cK) := (N8.next hb2).cell 5 _ rfl; have r6 := ((below_two hb8w hb2).cell (p := ⟨bk, offk + k * 14 + 6, none⟩) hbk).trans HI6.out))
               case c1 => exact one_news (by go_simp)
               case c2 => exact flatI_one [c.id]
               case c3 => unfold maxLen; omega
               case c4 => omega
               case c5 => simp; omega
               go_roundw
               case rel => exact ⟨k + 1, by go_num, by omega, by rw [HA1.out, flK_append, HSS.out]; simp [flK], by rw [HA1.out, idsK_append, flatI_append, List.length_append, HN1.out]; exact hown', hb2⟩
               case measure => first | (simp [intOf]; done) | (simp [intOf]; omega)
             · have HA1 : Hid (atP (K.take (k + 1)) p = atP (K.take k) p) := atP_no hltk (p := (p : Int)) (by rw [HX2.out]; exact hpl)
               have hpl' : (c.pl == (p : Int)) = false := by simp [hpl]
               clear hs
               go_wp2
               go_roundw
               case rel => exact ⟨k + 1, by go_num, by omega, by rw [HA1.out, HSS.out], by rw [HA1.out]; exact HO.out, hbr3⟩
               case measure => first | (simp [intOf]; done) | (simp [intOf]; omega)
           · have e : k = K.length := by omega
             subst e
             have HO2 : Hid (wr.ownsRow w8.heap.size 2 1 (.slice av (atP (K.take K.length) p).length cv) (atP K p).length (flatI (idsK (atP K p)))) := by
               have q := HO.out
               rw [List.take_length] at q ⊢
               exact q
             rw [List.take_length]
             rw [List.take_length] at HO2
             clear HO
             have hys : Hid (ISmp wr.heap.size wr av (idsK (atP K p))) := by
               have q := HO2.out
               rw [show (atP K p).length = (idsK (atP K p)).length from (idsK_length _).symm] at q
               exact iv_smpE (own_ints q)
             clear HO2
             obtain ⟨ys, hyy⟩ : ∃ ys, idsK (atP K p) = ys := ⟨_, rfl⟩
             obtain ⟨n, hn⟩ : ∃ n, (atP K p).length = n := ⟨_, rfl⟩
             obtain ⟨s, hs⟩ : ∃ s, flK (atP K p) = s := ⟨_, rfl⟩
             have HYN : Hid (ys.length = n) := by rw [← hyy, idsK_length]; exact hn
             have HYS : Hid (idsK (atP K p) = ys) := hyy
             have HSS : Hid (flK (atP K p) = s) := hs
             rw [hyy] at hys
             rw [hn, hs]
             clear hyy hn hs
             have r4 : wr.cell? ⟨w.heap.size, 4, none⟩ = some (.slice (some ⟨b, off, none⟩) L.length cL) := Q.cell 4 _ rfl
             have r1 := (hbr3.cell (p := ⟨b, off + p * 3 + 1, none⟩) hbz8).trans e1
             have r2 := (hbr3.cell (p := ⟨b, off + p * 3 + 2, none⟩) hbz8).trans e2
             by_cases hn2 : n = xs.length
             rotate_left
             · have HE : Hid (engB A nx T O P L K = false) := eg_false (fun h => by have q := (h.pl p hlt).2.2; rw [HX.out, HYS.out] at q; simp only at q; rw [← HYN.out, ← q] at hn2; exact hn2 rfl)
               have hn' : ((n : Int) == (xs.length : Int)) = false := by rw [beq_eq_false_iff_ne]; omega
               clear hn2
               go_wp2
               go_ret
               exact ⟨retC HE.out.symm, hby⟩
             subst hn2
             by_cases hs2 : s = fl
             rotate_left
             · have HE : Hid (engB A nx T O P L K = false) := eg_false (fun h => by have q := (h.pl p hlt).2.1; rw [HX.out, HSS.out] at q; simp only at q; exact hs2 q.symm)
               have hs' : (s == fl) = false := by simp [hs2]
               clear hs2
               go_wp2
               go_ret
               exact ⟨retC HE.out.symm, hby⟩
             subst hs2
             have hxi : (xs.length : Int) ≤ 50 := by omega
             go_wp2
             go_loopw [9] (fun z wq => ∃ j : Nat, z = .int .i64 j ∧ j ≤ xs.length ∧ Hid (∀ i (h : i < ys.length) (h' : i < xs.length), i < j → ys[i] = xs[i]) ∧ Below wr.heap.size wr wq) (fun z _ => xs.length - (intOf z).toNat)
             case atStart => exact ⟨0, rfl, by omega, (fun i h h' k => by omega), Below.refl _ _⟩
             case round =>
               obtain ⟨j, rfl, hjj, HJ, hbr4⟩ := hrel
               have hb84 := below_two hbr3 hbr4
               by_cases hltj : j < xs.length
               · have hltj' : (j : Int) < (xs.length : Int) := by omega
                 have hjy : j < ys.length := by have := HYN.out; omega
                 obtain ⟨b1, o1, hak, hb1, c0⟩ := hys.out.at hbr4 j hjy
                 obtain ⟨b2, o2, hak2, hb2, c1⟩ := (sm8.up z8).at hb84 j hltj
                 subst hak hak2
                 obtain ⟨x, hx⟩ : ∃ x, ys[j] = x := ⟨_, rfl⟩
                 obtain ⟨y, hy⟩ : ∃ y, xs[j] = y := ⟨_, rfl⟩
                 have HX3 : Hid (ys[j] = x) := hx
                 have HY3 : Hid (xs[j] = y) := hy
                 rw [hx] at c0
                 rw [hy] at c1
                 clear hx hy
                 by_cases he : x = y
                 · subst he
                   go_wp2
                   go_quiet (fail)
                   go_wp2
                   go_roundw
                   case rel =>
                     refine ⟨j + 1, by go_num, by omega, fun i hi hi' hij => ?_, below_drews hbr4 _⟩
                     by_cases e : i = j
                     · subst e; rw [HX3.out, HY3.out]
                     · exact HJ.out i hi hi' (by omega)
                   case measure => first | (simp [intOf]; done) | (simp [intOf]; omega)
                 · have he' : (x == y) = false := by simp [he]
                   have HE : Hid (engB A nx T O P L K = false) := eg_false (fun h => by
                     have q := (h.pl p hlt).2.2
                     rw [HX.out, HYS.out] at q
                     simp only at q
                     have q2 : xs[j]? = ys[j]? := by rw [q]
                     rw [List.getElem?_eq_getElem hltj, List.getElem?_eq_getElem hjy, HX3.out, HY3.out] at q2
                     exact he (Option.some.inj q2).symm)
                   clear he
                   go_wp2
                   go_quiet (fail)
                   go_wp2
                   go_ret
                   exact ⟨retC HE.out.symm, below_drews (below_two hb8w hb84) _⟩
               · have e : j = xs.length := by omega
                 subst e
                 have HP2 : Hid (∀ q (h : q < L.length), q < p + 1 → plB L[q].1 L[q].2.1 L[q].2.2 = true ∧ L[q].2.1 = flK (atP K q) ∧ L[q].2.2 = idsK (atP K q)) := fun q hq hqp => by
                   by_cases e : q = p
                   · subst e
                     rw [HX.out, HSS.out, HYS.out]
                     exact ⟨h8, rfl, (List.ext_getElem HYN.out.symm (fun i h1 h2 => (HJ.out i h2 h1 h1).symm))⟩
                   · exact HP.out q hq (by omega)
                 go_wp2
                 go_roundw
                 case rel => exact ⟨p + 1, by go_num, by omega, HP2, below_two hbr2 (below_two hb8 hb84)⟩
                 case measure => first | (simp [intOf]; done) | (simp [intOf]; omega)
       · have e : p = L.length := by omega
         subst e
         have HE : Hid (engB A nx T O P L K = true) := eg_true ⟨H1.out, HA.out, h6, nL1, nL2, nK1, HC1.out, HR1.out, fun q hq => HP.out q hq hq⟩
         go_wp2
         go_ret
         exact ⟨retC HE.out.symm, hbx⟩
theorem specEngineOk_any {w : World} (now nx : Int) {aT aO aP aL aK : Option Addr} (cT cO cP cL cK : Nat) {T O P : List Q4} {L : List F8} {K : List Kn} (hT : Quad w.heap.size w aT T) (hO : Quad w.heap.size w aO O) (hP : Quad w.heap.size w aP P) (hL : Fls w.heap.size w aL L) (hK : Kls w.heap.size w aK K) (mT : T.length ≤ 1048576) (mL : L.length ≤ 1048576) (mK : K.length ≤ 1048576) (sK : ∀ c ∈ K, c.xs.length ≤ maxLen) :
   Calls Tryz.prog 23 #[engV now aT T.length cT aO O.length cO aP P.length cP aL L.length cL aK K.length cK nx] w fun e w' => e = .returned (.bool (engB now nx T O P L K)) ∧ Below w.heap.size w w' := by
 cases h0 : timeB now
 · exact specEng_no0 now nx cT cO cP cL cK hT hO hP hL hK mT mL mK sK h0
 cases h1 : lendB T O P
 · exact specEng_no1 now nx cT cO cP cL cK hT hO hP hL hK mT mL mK sK h0 h1
 by_cases h2 : atOf O = now
 rotate_left
 · exact specEng_no2 now nx cT cO cP cL cK hT hO hP hL hK mT mL mK sK h0 h1 h2
 by_cases h3 : (L.length : Int) < 1
 · exact specEng_no3 now nx cT cO cP cL cK hT hO hP hL hK mT mL mK sK h0 h1 h2 h3
 by_cases h4 : 10 < (L.length : Int)
 · exact specEng_no4 now nx cT cO cP cL cK hT hO hP hL hK mT mL mK sK h0 h1 h2 h3 h4
 by_cases h5 : 40 < (K.length : Int)
 · exact specEng_no5 now nx cT cO cP cL cK hT hO hP hL hK mT mL mK sK h0 h1 h2 h3 h4 h5
 cases h6 : inQ 0 nx 1000001
 · exact specEng_no6 now nx cT cO cP cL cK hT hO hP hL hK mT mL mK sK h0 h1 h2 h3 h4 h5 h6
 exact specEng_go now nx cT cO cP cL cK hT hO hP hL hK mT mL mK sK h0 h1 h2 h3 h4 h5 h6
theorem specEngineOk_is {w : World} {now nx : Int} {aT aO aP aL aK : Option Addr} (cT cO cP cL cK : Nat) {T O P : List Q4} {L : List F8} {K : List Kn} {f : Bool} (hf : engB now nx T O P L K = f) (hT : Quad w.heap.size w aT T) (hO : Quad w.heap.size w aO O) (hP : Quad w.heap.size w aP P) (hL : Fls w.heap.size w aL L) (hK : Kls w.heap.size w aK K) (mT : T.length ≤ 1048576) (mL : L.length ≤ 1048576) (mK : K.length ≤ 1048576) (sK : ∀ c ∈ K, c.xs.length ≤ maxLen) :
   Calls Tryz.prog 23 #[engV now aT T.length cT aO O.length cO aP P.length cP aL L.length cL aK K.length cK nx] w fun e w' => e = .returned (.bool (f)) ∧ Below w.heap.size w w' := by subst hf; exact specEngineOk_any now nx cT cO cP cL cK hT hO hP hL hK mT mL mK sK
def freeW (wd n : Int) (lost : Bool) : Int := if lost = true then max 3000 (wd / 2) else min 1000000000 (wd + n * 1500 / wd)
theorem inQ_num {lo x hi : Int} (h : inQ lo x hi = true) : lo ≤ x ∧ x ≤ hi := by
 unfold inQ at h
 simp only [Bool.and_eq_true, decide_eq_true_eq] at h
 exact h
set_option maxHeartbeats 4000000 in
theorem specFree_yes {wd fl n : Int} {lost : Bool} {w : World} {a : Option Addr} (cap : Nat) {xs : List Int} (hp : plB wd fl xs = true) (hn : inQ 1 n 1000000000 = true) (smp : ISmp w.heap.size w a xs) : Calls Tryz.prog 54 #[.agg #[.int .i64 wd, .int .i64 fl, .slice a xs.length cap], .int .i64 n, .bool lost] w (AnsP w xs (freeW wd n lost) (max 0 (fl - n))) := by
 obtain ⟨⟨q1', q2'⟩, ⟨q3', q4'⟩, q5'⟩ := pl_num hp
 obtain ⟨q6', q7'⟩ := inQ_num hn
 have r1 : IntKind.i64.wrap (fl - n) = fl - n := by rw [IntKind.wrap_i64]; omega
 obtain ⟨f1, hf1⟩ : ∃ z, max 0 (fl - n) = z := ⟨_, rfl⟩
 obtain ⟨w1, hw1⟩ : ∃ z, freeW wd n lost = z := ⟨_, rfl⟩
 rw [hf1, hw1]
 go_enter Tryz.func54, Tryz.ntmps54
 go_upto_region 4 with (first
   | (go_at_call 69; refine (specPlaceOk_is cap hp (smp.here (by go_grown))).mono ?_; rintro e w3 ⟨rfl, hbw3⟩; have hbw : Below w.heap.size w w3 := below_two (by go_grown) hbw3; have kc := below_cells4 hbw3; have kf := below_frozens4 hbw3; have zl := hbw3.size; (try simp at zl); have p0 : w3.cell? ⟨w.heap.size, 0, none⟩ = some (.int .i64 wd) := (kc _ _ (by simp; try omega)).trans (by go_simp); have p1 : w3.cell? ⟨w.heap.size, 1, none⟩ = some (.int .i64 fl) := (kc _ _ (by simp; try omega)).trans (by go_simp); have p2 : w3.cell? ⟨w.heap.size, 2, none⟩ = some (.slice a xs.length cap) := (kc _ _ (by simp; try omega)).trans (by go_simp); have v0 : w3.cell? ⟨w.heap.size + 1, 0, none⟩ = some (.int .i64 0) := (kc _ _ (by simp; try omega)).trans (by go_simp); have v1 : w3.cell? ⟨w.heap.size + 1, 1, none⟩ = some (.int .i64 0) := (kc _ _ (by simp; try omega)).trans (by go_simp); have v2 : w3.cell? ⟨w.heap.size + 1, 2, none⟩ = some (.slice none 0 0) := (kc _ _ (by simp; try omega)).trans (by go_simp); have vz : ∀ o : Nat, w3.frozen? ⟨w.heap.size + 1, o, none⟩ = false := (fun o => (kf _ _ (by simp; try omega)).trans (by go_simp)); clear kc kf)
   | (go_at_call 25; refine (inQ_is hn _).mono ?_; rintro e w4 ⟨rfl, rfl⟩)
   | (go_at_call 71; refine (l13Copy_any cap (by omega) (smp.here hbw)).mono ?_; rintro e w5 ⟨a5, n5, c5, rfl, iv5, hb5⟩; have z3 := zl; have hbw : Below w.heap.size w w5 := below_two hbw hb5; have p0 := (hb5.cell (p := ⟨w.heap.size, 0, none⟩) (by show w.heap.size < _; omega)).trans p0; have p1 := (hb5.cell (p := ⟨w.heap.size, 1, none⟩) (by show w.heap.size < _; omega)).trans p1; have p2 := (hb5.cell (p := ⟨w.heap.size, 2, none⟩) (by show w.heap.size < _; omega)).trans p2; have v0 := (hb5.cell (p := ⟨w.heap.size + 1, 0, none⟩) (by show w.heap.size + 1 < _; omega)).trans v0; have v1 := (hb5.cell (p := ⟨w.heap.size + 1, 1, none⟩) (by show w.heap.size + 1 < _; omega)).trans v1; have v2 := (hb5.cell (p := ⟨w.heap.size + 1, 2, none⟩) (by show w.heap.size + 1 < _; omega)).trans v2; have vz : ∀ o : Nat, w5.frozen? ⟨w.heap.size + 1, o, none⟩ = false := fun o => (hb5.frozen (p := ⟨w.heap.size + 1, o, none⟩) (by show w.heap.size + 1 < _; omega)).trans (vz o); have zl : w.heap.size + 1 + 1 ≤ w5.heap.size := Nat.le_trans zl hb5.size))
 obtain ⟨x6, hx6⟩ : ∃ x, x = w5.alloc (.cells #[.int .i64 wd, .int .i64 fl, .slice a5 n5 c5] 58) := ⟨_, rfl⟩
 obtain ⟨q, hq⟩ : ∃ b, b = w5.heap.size := ⟨_, rfl⟩
 rw [← hx6, ← hq]
 have hb6 : Below w5.heap.size w5 x6 := by rw [hx6]; exact new_below _ _
 have q0 : x6.cell? ⟨q, 0, none⟩ = some (.int .i64 wd) := by rw [hx6, hq]; go_simp
 have q1 : x6.cell? ⟨q, 1, none⟩ = some (.int .i64 fl) := by rw [hx6, hq]; go_simp
 have q2 : x6.cell? ⟨q, 2, none⟩ = some (.slice a5 n5 c5) := by rw [hx6, hq]; go_simp
 have qz : ∀ o : Nat, x6.frozen? ⟨q, o, none⟩ = false := fun o => by rw [hx6, hq]; go_simp
 have yq : w5.heap.size ≤ q := by omega
 have uq : q < x6.heap.size := by rw [hx6, hq]; simp
 have iv6 := iv5.next hb6
 have og6 : ∀ g, (Value.slice a5 n5 c5).ownBlock = some g → w.heap.size + 1 < g ∧ g < q := fun g hg => by have := iv5.own hg; omega
 have hbw : Below w.heap.size w x6 := below_two hbw hb6
 have p0 := (hb6.cell (p := ⟨w.heap.size, 0, none⟩) (by show w.heap.size < _; omega)).trans p0
 have p1 := (hb6.cell (p := ⟨w.heap.size, 1, none⟩) (by show w.heap.size < _; omega)).trans p1
 have p2 := (hb6.cell (p := ⟨w.heap.size, 2, none⟩) (by show w.heap.size < _; omega)).trans p2
 have v0 := (hb6.cell (p := ⟨w.heap.size + 1, 0, none⟩) (by show w.heap.size + 1 < _; omega)).trans v0
 have v1 := (hb6.cell (p := ⟨w.heap.size + 1, 1, none⟩) (by show w.heap.size + 1 < _; omega)).trans v1
 have v2 := (hb6.cell (p := ⟨w.heap.size + 1, 2, none⟩) (by show w.heap.size + 1 < _; omega)).trans v2
 have vz : ∀ o : Nat, x6.frozen? ⟨w.heap.size + 1, o, none⟩ = false := fun o => (hb6.frozen (p := ⟨w.heap.size + 1, o, none⟩) (by show w.heap.size + 1 < _; omega)).trans (vz o)
 have zl : w.heap.size + 1 + 1 ≤ x6.heap.size := Nat.le_trans zl hb6.size
 clear hx6 hq
 go_upto_region 5 with (first
   | (go_at_call 115; refine (max10_any 0 (fl - n) _).mono ?_; rintro e wM ⟨rfl, hM⟩; have hM := hM.symm; subst hM; rw [hf1]))
 obtain ⟨x7, hx7⟩ : ∃ x, x = (x6.setCell ⟨q, 1, none⟩ (.int .i64 f1)) := ⟨_, rfl⟩
 rw [← hx7]
 have oX : Only q x6 x7 := by rw [hx7]; exact ((Only.refl _ x6).setCell (p := ⟨q, 1, none⟩) rfl _)
 have q0 : x7.cell? ⟨q, 0, none⟩ = some (.int .i64 wd) := by rw [hx7]; exact (set_other4 (by decide)).trans q0
 have q1 : x7.cell? ⟨q, 1, none⟩ = some (.int .i64 f1) := by rw [hx7]; exact set_same4 _ q1
 have q2 : x7.cell? ⟨q, 2, none⟩ = some (.slice a5 n5 c5) := by rw [hx7]; exact (set_other4 (by decide)).trans q2
 have qz : ∀ o : Nat, x7.frozen? ⟨q, o, none⟩ = false := fun o => by rw [hx7]; simpa using qz o
 have p0 := (oX.cell (p := ⟨w.heap.size, 0, none⟩) (by show w.heap.size < _; omega) (by show w.heap.size ≠ q; omega)).trans p0
 have p1 := (oX.cell (p := ⟨w.heap.size, 1, none⟩) (by show w.heap.size < _; omega) (by show w.heap.size ≠ q; omega)).trans p1
 have p2 := (oX.cell (p := ⟨w.heap.size, 2, none⟩) (by show w.heap.size < _; omega) (by show w.heap.size ≠ q; omega)).trans p2
 have v0 := (oX.cell (p := ⟨w.heap.size + 1, 0, none⟩) (by show w.heap.size + 1 < _; omega) (by show w.heap.size + 1 ≠ q; omega)).trans v0
 have v1 := (oX.cell (p := ⟨w.heap.size + 1, 1, none⟩) (by show w.heap.size + 1 < _; omega) (by show w.heap.size + 1 ≠ q; omega)).trans v1
 have v2 := (oX.cell (p := ⟨w.heap.size + 1, 2, none⟩) (by show w.heap.size + 1 < _; omega) (by show w.heap.size + 1 ≠ q; omega)).trans v2
 have vz : ∀ o : Nat, x7.frozen? ⟨w.heap.size + 1, o, none⟩ = false := fun o => (oX.frozen (p := ⟨w.heap.size + 1, o, none⟩) (by show w.heap.size + 1 < _; omega) (by show w.heap.size + 1 ≠ q; omega)).trans (vz o)
 have hbw : Below w.heap.size w x7 := hbw.trans (oX.below (by omega) (by omega))
 have iv7 := iv6.onlyO (OnlyO.of_only oX) (fun g hg e => by have := og6 g hg; injection e with e; omega)
 have zl := Nat.le_trans zl oX.size
 have uq := Nat.lt_of_lt_of_le uq oX.size
 clear hx7 oX
 cases lost
 · have hw1 : min 1000000000 (wd + n * 1500 / wd) = w1 := hw1
   have p0' : 0 ≤ n * 1500 := by omega
   have ed := tdiv10 (x := n * 1500) p0' wd
   have rw1 : IntKind.i64.wrap (n * 1500) = n * 1500 := by rw [IntKind.wrap_i64]; omega
   have dv : 0 ≤ n * 1500 / wd ∧ n * 1500 / wd ≤ n * 1500 := ⟨Int.ediv_nonneg (by omega) (by omega), Int.ediv_le_self _ (by omega)⟩
   obtain ⟨dz, hdz⟩ : ∃ z, n * 1500 / wd = z := ⟨_, rfl⟩
   rw [hdz] at ed dv hw1
   have rw2 : IntKind.i64.wrap dz = dz := by rw [IntKind.wrap_i64]; omega
   have rw3 : IntKind.i64.wrap (wd + dz) = wd + dz := by rw [IntKind.wrap_i64]; omega
   have wz : ¬ wd = 0 := by omega
   have wz' : (wd == 0) = false := beq_eq_false_iff_ne.2 wz
   have HM : Hid (∀ w : World, Calls Tryz.prog 117 #[.int .i64 1000000000, .int .i64 (wd + dz)] w fun e w' => e = .returned (.int .i64 w1) ∧ w' = w) := fun w => by rw [← hw1]; exact min10_any 1000000000 (wd + dz) w
   clear hdz hw1
   go_upto_region 7 with (fail)
   have hS0 : (fun w' => w'.cell? ⟨w.heap.size, 0, none⟩ = some (.int .i64 wd) ∧ w'.cell? ⟨w.heap.size, 1, none⟩ = some (.int .i64 fl) ∧ w'.cell? ⟨w.heap.size, 2, none⟩ = some (.slice a xs.length cap)) x7.drew := ⟨(by simpa using p0), (by simpa using p1), (by simpa using p2)⟩
   have D7 : Below x7.heap.size x7 x7.drew := (Below.refl _ _).drew
   refine region_late (S := fun w' => w'.cell? ⟨w.heap.size, 0, none⟩ = some (.int .i64 wd) ∧ w'.cell? ⟨w.heap.size, 1, none⟩ = some (.int .i64 fl) ∧ w'.cell? ⟨w.heap.size, 2, none⟩ = some (.slice a xs.length cap)) 10 (by kernel_rfl) hS0 (fun hS => ?_)
   refine lateR 0 rfl ?_
   refine lateR 1 rfl ?_
   refine lateR 2 rfl ?_
   refine lateR 3 rfl ?_
   refine lateR 4 rfl ?_
   refine lateR 5 rfl ?_
   refine lateR 6 rfl ?_
   refine lateR 7 rfl ?_
   refine late_one (i := 8) (by kernel_rfl) rfl (fun K hK => ?_)
   go_simp
   (refine (HM.out _).mono ?_; rintro e wM ⟨rfl, hM⟩; have hM := hM.symm; subst hM; have hS := hS0)
   refine hK.out _ _ ‹_› fun _ => ?_
   try simp only [nrm]
   refine late_one (i := 9) (by kernel_rfl) rfl (fun K hK => ?_)
   go_simp
   refine hK.out _ _ ‹_› fun _ => ?_
   try simp only [nrm]
   refine late_last (by kernel_rfl) rfl (by kernel_rfl) (fun K hK => ?_)
   go_simp
   refine hK.out _ _ ?_
   try simp only [nrm]
   obtain ⟨x8, hx7⟩ : ∃ x, x = (x7.setCell ⟨q, 0, none⟩ (.int .i64 w1)).drew := ⟨_, rfl⟩
   rw [← hx7]
   have oX : Only q x7 x8 := by rw [hx7]; exact ((Only.refl _ x7).setCell (p := ⟨q, 0, none⟩) rfl _).trans (Only.of_below (Below.refl _ _).drew)
   have q0 : x8.cell? ⟨q, 0, none⟩ = some (.int .i64 w1) := by rw [hx7]; simp only [World.cell?_drew]; exact set_same4 _ q0
   have q1 : x8.cell? ⟨q, 1, none⟩ = some (.int .i64 f1) := by rw [hx7]; simp only [World.cell?_drew]; exact (set_other4 (by decide)).trans q1
   have q2 : x8.cell? ⟨q, 2, none⟩ = some (.slice a5 n5 c5) := by rw [hx7]; simp only [World.cell?_drew]; exact (set_other4 (by decide)).trans q2
   have qz : ∀ o : Nat, x8.frozen? ⟨q, o, none⟩ = false := fun o => by rw [hx7]; simpa using qz o
   have p0 := (oX.cell (p := ⟨w.heap.size, 0, none⟩) (by show w.heap.size < _; omega) (by show w.heap.size ≠ q; omega)).trans p0
   have p1 := (oX.cell (p := ⟨w.heap.size, 1, none⟩) (by show w.heap.size < _; omega) (by show w.heap.size ≠ q; omega)).trans p1
   have p2 := (oX.cell (p := ⟨w.heap.size, 2, none⟩) (by show w.heap.size < _; omega) (by show w.heap.size ≠ q; omega)).trans p2
   have v0 := (oX.cell (p := ⟨w.heap.size + 1, 0, none⟩) (by show w.heap.size + 1 < _; omega) (by show w.heap.size + 1 ≠ q; omega)).trans v0
   have v1 := (oX.cell (p := ⟨w.heap.size + 1, 1, none⟩) (by show w.heap.size + 1 < _; omega) (by show w.heap.size + 1 ≠ q; omega)).trans v1
   have v2 := (oX.cell (p := ⟨w.heap.size + 1, 2, none⟩) (by show w.heap.size + 1 < _; omega) (by show w.heap.size + 1 ≠ q; omega)).trans v2
   have vz : ∀ o : Nat, x8.frozen? ⟨w.heap.size + 1, o, none⟩ = false := fun o => (oX.frozen (p := ⟨w.heap.size + 1, o, none⟩) (by show w.heap.size + 1 < _; omega) (by show w.heap.size + 1 ≠ q; omega)).trans (vz o)
   have hbw : Below w.heap.size w x8 := hbw.trans (oX.below (by omega) (by omega))
   have iv8 := iv7.onlyO (OnlyO.of_only oX) (fun g hg e => by have := og6 g hg; injection e with e; omega)
   have zl := Nat.le_trans zl oX.size
   have uq := Nat.lt_of_lt_of_le uq oX.size
   clear hx7 oX
   go_wp2
   obtain ⟨y, ey, cs, fzy, sz, hbel, hon⟩ := over3 (.int .i64 w1) (.int .i64 f1) (.slice a5 n5 c5) (g := w.heap.size + 1) v0 v1 v2
   rw [← ey]
   refine bodyPost_ret (results_one rfl _ _ _ [.int .i64 w1, .int .i64 f1, .slice a5 n5 c5] rfl cs Tryz.underlying58 rfl (by kernel_rfl)) rfl ?_
   exact ⟨_, _, _, rfl, (iv8.onlyO (OnlyO.of_only hon) (fun g hg e => by have := (iv8.own hg).1; injection e with e; omega)).lower (by omega), hbw.trans (hbel _ (by omega))⟩
 · have hw1 : max 3000 (wd / 2) = w1 := hw1
   have ed := tdiv10 (x := wd) (by omega) 2
   have rd : IntKind.i64.wrap (wd / 2) = wd / 2 := by rw [IntKind.wrap_i64]; omega
   go_upto_region 8 with (first
     | (go_at_call 115; refine (max10_any 3000 (wd / 2) _).mono ?_; rintro e wM ⟨rfl, hM⟩; have hM := hM.symm; subst hM; rw [hw1]))
   obtain ⟨x8, hx7⟩ : ∃ x, x = (x7.setCell ⟨q, 0, none⟩ (.int .i64 w1)) := ⟨_, rfl⟩
   rw [← hx7]
   have oX : Only q x7 x8 := by rw [hx7]; exact ((Only.refl _ x7).setCell (p := ⟨q, 0, none⟩) rfl _)
   have q0 : x8.cell? ⟨q, 0, none⟩ = some (.int .i64 w1) := by rw [hx7]; exact set_same4 _ q0
   have q1 : x8.cell? ⟨q, 1, none⟩ = some (.int .i64 f1) := by rw [hx7]; exact (set_other4 (by decide)).trans q1
   have q2 : x8.cell? ⟨q, 2, none⟩ = some (.slice a5 n5 c5) := by rw [hx7]; exact (set_other4 (by decide)).trans q2
   have qz : ∀ o : Nat, x8.frozen? ⟨q, o, none⟩ = false := fun o => by rw [hx7]; simpa using qz o
   have p0 := (oX.cell (p := ⟨w.heap.size, 0, none⟩) (by show w.heap.size < _; omega) (by show w.heap.size ≠ q; omega)).trans p0
   have p1 := (oX.cell (p := ⟨w.heap.size, 1, none⟩) (by show w.heap.size < _; omega) (by show w.heap.size ≠ q; omega)).trans p1
   have p2 := (oX.cell (p := ⟨w.heap.size, 2, none⟩) (by show w.heap.size < _; omega) (by show w.heap.size ≠ q; omega)).trans p2
   have v0 := (oX.cell (p := ⟨w.heap.size + 1, 0, none⟩) (by show w.heap.size + 1 < _; omega) (by show w.heap.size + 1 ≠ q; omega)).trans v0
   have v1 := (oX.cell (p := ⟨w.heap.size + 1, 1, none⟩) (by show w.heap.size + 1 < _; omega) (by show w.heap.size + 1 ≠ q; omega)).trans v1
   have v2 := (oX.cell (p := ⟨w.heap.size + 1, 2, none⟩) (by show w.heap.size + 1 < _; omega) (by show w.heap.size + 1 ≠ q; omega)).trans v2
   have vz : ∀ o : Nat, x8.frozen? ⟨w.heap.size + 1, o, none⟩ = false := fun o => (oX.frozen (p := ⟨w.heap.size + 1, o, none⟩) (by show w.heap.size + 1 < _; omega) (by show w.heap.size + 1 ≠ q; omega)).trans (vz o)
   have hbw : Below w.heap.size w x8 := hbw.trans (oX.below (by omega) (by omega))
   have iv8 := iv7.onlyO (OnlyO.of_only oX) (fun g hg e => by have := og6 g hg; injection e with e; omega)
   have zl := Nat.le_trans zl oX.size
   have uq := Nat.lt_of_lt_of_le uq oX.size
   clear hx7 oX
   go_wp2
   obtain ⟨y, ey, cs, fzy, sz, hbel, hon⟩ := over3 (.int .i64 w1) (.int .i64 f1) (.slice a5 n5 c5) (g := w.heap.size + 1) v0 v1 v2
   rw [← ey]
   refine bodyPost_ret (results_one rfl _ _ _ [.int .i64 w1, .int .i64 f1, .slice a5 n5 c5] rfl cs Tryz.underlying58 rfl (by kernel_rfl)) rfl ?_
   exact ⟨_, _, _, rfl, (iv8.onlyO (OnlyO.of_only hon) (fun g hg e => by have := (iv8.own hg).1; injection e with e; omega)).lower (by omega), hbw.trans (hbel _ (by omega))⟩
end Go.Proofs.YtkohlmloobojfaaGreat
