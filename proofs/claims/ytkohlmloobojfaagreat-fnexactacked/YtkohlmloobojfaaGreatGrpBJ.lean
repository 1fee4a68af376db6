/- Lemmas on the way, of several texts: SpecFly, SpecAcked, ImplFly, ImplAL, FlyBoth. -/
import Derived.Test.YtkohlmloobojfaaGreatGrpAF
import Derived.Test.YtkohlmloobojfaaGreatGrpAY
import Derived.Test.YtkohlmloobojfaaGreatGrpAVX1
import Derived.Test.YtkohlmloobojfaaGreatGrpBH
import Derived.Test.YtkohlmloobojfaaGreatGrpAXX1
import Derived.Test.YtkohlmloobojfaaGreatGrpBI
import Derived.Test.YtkohlmloobojfaaGreatGrpBA
namespace Go.Proofs.YtkohlmloobojfaaGreat
open Go.ChangeShapes Go.WideShapes Go.ChangeAt Go.RowKit
set_option maxRecDepth 100000
set_option linter.unusedVariables false
set_option linter.unusedSimpArgs false
set_option maxHeartbeats 8000000 in
theorem flying_bad {w : World} (now nx : Int) {aT aO aP aL aK : Option Addr} (cT cO cP cL cK : Nat) {T O P : List Q4} {L : List F8} {K : List Kn} (id n : Int) (hT : Quad w.heap.size w aT T) (hO : Quad w.heap.size w aO O) (hP : Quad w.heap.size w aP P) (hL : Fls w.heap.size w aL L) (hK : Kls w.heap.size w aK K) (mT : T.length ≤ 1048576) (mL : L.length ≤ 1048576) (sL : ∀ f ∈ L, f.2.2.length ≤ 1048576) (mK : K.length ≤ 1048576) (sK : ∀ c ∈ K, c.xs.length ≤ 1048576) (h1 : engB now nx T O P L K = false) : Calls Tryz.prog 51 #[engV now aT T.length cT aO O.length cO aP P.length cP aL L.length cL aK K.length cK nx, .int .i64 id, .int .i64 n] w (fun e w' => e = .returned (.tuple #[.int .i64 (-1), .int .i64 1]) ∧ Below w.heap.size w w') := by
 have sKm : ∀ c ∈ K, c.xs.length ≤ maxLen := fun c hc => Nat.le_trans (sK c hc) (by unfold maxLen; omega)
 have mKm : K.length ≤ maxLen := Nat.le_trans mK (by unfold maxLen; omega)
 obtain ⟨v, hv⟩ : ∃ v, v = w.alloc (.cells #[.int .i64 now, .slice aT T.length cT, .slice aO O.length cO, .slice aP P.length cP, .slice aL L.length cL, .slice aK K.length cK, .int .i64 nx] 38) := ⟨_, rfl⟩
 have nb : Below w.heap.size w v := by rw [hv]; go_grown
 have L0 : Lay v w.heap.size [.int .i64 now, .slice aT T.length cT, .slice aO O.length cO, .slice aP P.length cP, .slice aL L.length cL, .slice aK K.length cK, .int .i64 nx] := by rw [hv]; exact lay_new [.int .i64 now, .slice aT T.length cT, .slice aO O.length cO, .slice aP P.length cP, .slice aL L.length cL, .slice aK K.length cK, .int .i64 nx] _ rfl
 go_enter Tryz.func51, Tryz.ntmps51
 go_upto_region 1 with (fail)
 rw [← hv]
 clear hv
 obtain ⟨q0, q1, q2, q3, q4, q5, q6⟩ := L0.c7
 go_wp2_with (first | (go_at_call 23; refine (specEngineOk_is cT cO cP cL cK h1 (hT.here nb) (hO.here nb) (hP.here nb) (hL.here nb) (hK.here nb) mT mL mK sKm).mono ?_; rintro e v2 ⟨rfl, hb2⟩; have b2 := below_two nb hb2; have M0 := L0.next hb2; clear q0 q1 q2 q3 q4 q5 q6; obtain ⟨q0, q1, q2, q3, q4, q5, q6⟩ := M0.c7))
 go_ret2
 exact ⟨rfl, b2⟩
set_option maxHeartbeats 8000000 in
theorem flying_id {w : World} (now nx : Int) {aT aO aP aL aK : Option Addr} (cT cO cP cL cK : Nat) {T O P : List Q4} {L : List F8} {K : List Kn} (id n : Int) (hT : Quad w.heap.size w aT T) (hO : Quad w.heap.size w aO O) (hP : Quad w.heap.size w aP P) (hL : Fls w.heap.size w aL L) (hK : Kls w.heap.size w aK K) (mT : T.length ≤ 1048576) (mL : L.length ≤ 1048576) (sL : ∀ f ∈ L, f.2.2.length ≤ 1048576) (mK : K.length ≤ 1048576) (sK : ∀ c ∈ K, c.xs.length ≤ 1048576) (h1 : engB now nx T O P L K = true) (hf : fK K id = -1) : Calls Tryz.prog 51 #[engV now aT T.length cT aO O.length cO aP P.length cP aL L.length cL aK K.length cK nx, .int .i64 id, .int .i64 n] w (fun e w' => e = .returned (.tuple #[.int .i64 (-1), .int .i64 2]) ∧ Below w.heap.size w w') := by
 have sKm : ∀ c ∈ K, c.xs.length ≤ maxLen := fun c hc => Nat.le_trans (sK c hc) (by unfold maxLen; omega)
 have mKm : K.length ≤ maxLen := Nat.le_trans mK (by unfold maxLen; omega)
 obtain ⟨v, hv⟩ : ∃ v, v = w.alloc (.cells #[.int .i64 now, .slice aT T.length cT, .slice aO O.length cO, .slice aP P.length cP, .slice aL L.length cL, .slice aK K.length cK, .int .i64 nx] 38) := ⟨_, rfl⟩
 have nb : Below w.heap.size w v := by rw [hv]; go_grown
 have L0 : Lay v w.heap.size [.int .i64 now, .slice aT T.length cT, .slice aO O.length cO, .slice aP P.length cP, .slice aL L.length cL, .slice aK K.length cK, .int .i64 nx] := by rw [hv]; exact lay_new [.int .i64 now, .slice aT T.length cT, .slice aO O.length cO, .slice aP P.length cP, .slice aL L.length cL, .slice aK K.length cK, .int .i64 nx] _ rfl
 go_enter Tryz.func51, Tryz.ntmps51
 go_upto_region 1 with (fail)
 rw [← hv]
 clear hv
 obtain ⟨q0, q1, q2, q3, q4, q5, q6⟩ := L0.c7
 go_wp2_with (first | (go_at_call 23; refine (specEngineOk_is cT cO cP cL cK h1 (hT.here nb) (hO.here nb) (hP.here nb) (hL.here nb) (hK.here nb) mT mL mK sKm).mono ?_; rintro e v2 ⟨rfl, hb2⟩; have b2 := below_two nb hb2; have M0 := L0.next hb2; clear q0 q1 q2 q3 q4 q5 q6; obtain ⟨q0, q1, q2, q3, q4, q5, q6⟩ := M0.c7) | (go_at_call 26; refine (specFind_any now nx id (hK.here b2) mKm).mono ?_; rintro e v3 ⟨rfl, hb3⟩; rw [hf]; have b3 := below_two b2 hb3; have N0 := M0.next hb3; clear q0 q1 q2 q3 q4 q5 q6; obtain ⟨q0, q1, q2, q3, q4, q5, q6⟩ := N0.c7; skip))
 go_ret2
 exact ⟨rfl, b3⟩
set_option maxHeartbeats 8000000 in
theorem flying_size {w : World} (now nx : Int) {aT aO aP aL aK : Option Addr} (cT cO cP cL cK : Nat) {T O P : List Q4} {L : List F8} {K : List Kn} (id n : Int) (hT : Quad w.heap.size w aT T) (hO : Quad w.heap.size w aO O) (hP : Quad w.heap.size w aP P) (hL : Fls w.heap.size w aL L) (hK : Kls w.heap.size w aK K) (mT : T.length ≤ 1048576) (mL : L.length ≤ 1048576) (sL : ∀ f ∈ L, f.2.2.length ≤ 1048576) (mK : K.length ≤ 1048576) (sK : ∀ c ∈ K, c.xs.length ≤ 1048576) (h1 : engB now nx T O P L K = true) (i : Nat) (hi : i < K.length) (hf : fK K id = (i : Int)) (hg : inQ 1 n K[i].fl = false) : Calls Tryz.prog 51 #[engV now aT T.length cT aO O.length cO aP P.length cP aL L.length cL aK K.length cK nx, .int .i64 id, .int .i64 n] w (fun e w' => e = .returned (.tuple #[.int .i64 (-1), .int .i64 7]) ∧ Below w.heap.size w w') := by
 have sKm : ∀ c ∈ K, c.xs.length ≤ maxLen := fun c hc => Nat.le_trans (sK c hc) (by unfold maxLen; omega)
 have mKm : K.length ≤ maxLen := Nat.le_trans mK (by unfold maxLen; omega)
 have hi0 : ¬ ((i : Int) < 0) := by omega
 have hi' : (i : Int) < (K.length : Int) := by omega
 obtain ⟨b, off, sa, sc, hak, hbl, d0, d13, sm⟩ := hK i hi
 subst hak
 have d6 := d0 6 _ rfl
 have hq : ∀ x, Below w.heap.size w x → x.cell? ⟨b, off + i * 14 + 6, none⟩ = some (.int .i64 K[i].fl) := fun x hx => (hx.cell (by exact hbl)).trans d6
 clear d0 d13 sm d6
 obtain ⟨v, hv⟩ : ∃ v, v = w.alloc (.cells #[.int .i64 now, .slice aT T.length cT, .slice aO O.length cO, .slice aP P.length cP, .slice aL L.length cL, .slice (some ⟨b, off, none⟩) K.length cK, .int .i64 nx] 38) := ⟨_, rfl⟩
 have nb : Below w.heap.size w v := by rw [hv]; go_grown
 have L0 : Lay v w.heap.size [.int .i64 now, .slice aT T.length cT, .slice aO O.length cO, .slice aP P.length cP, .slice aL L.length cL, .slice (some ⟨b, off, none⟩) K.length cK, .int .i64 nx] := by rw [hv]; exact lay_new [.int .i64 now, .slice aT T.length cT, .slice aO O.length cO, .slice aP P.length cP, .slice aL L.length cL, .slice (some ⟨b, off, none⟩) K.length cK, .int .i64 nx] _ rfl
 go_enter Tryz.func51, Tryz.ntmps51
 go_upto_region 1 with (fail)
 rw [← hv]
 clear hv
 obtain ⟨q0, q1, q2, q3, q4, q5, q6⟩ := L0.c7
 go_wp2_with (first | (go_at_call 23; refine (specEngineOk_is cT cO cP cL cK h1 (hT.here nb) (hO.here nb) (hP.here nb) (hL.here nb) (hK.here nb) mT mL mK sKm).mono ?_; rintro e v2 ⟨rfl, hb2⟩; have b2 := below_two nb hb2; have M0 := L0.next hb2; clear q0 q1 q2 q3 q4 q5 q6; obtain ⟨q0, q1, q2, q3, q4, q5, q6⟩ := M0.c7) | (go_at_call 26; refine (specFind_any now nx id (hK.here b2) mKm).mono ?_; rintro e v3 ⟨rfl, hb3⟩; rw [hf]; have b3 := below_two b2 hb3; have N0 := M0.next hb3; clear q0 q1 q2 q3 q4 q5 q6; obtain ⟨q0, q1, q2, q3, q4, q5, q6⟩ := N0.c7; have c6 := hq v3 b3) | (go_at_call 25; refine (inQ_is hg _).mono ?_; rintro e w3 ⟨rfl, e3⟩; replace e3 := e3.symm; subst e3))
 go_ret2
 exact ⟨rfl, b3⟩
set_option maxHeartbeats 8000000 in
theorem flying_go {w : World} (now nx : Int) {aT aO aP aL aK : Option Addr} (cT cO cP cL cK : Nat) {T O P : List Q4} {L : List F8} {K : List Kn} (id n : Int) (hT : Quad w.heap.size w aT T) (hO : Quad w.heap.size w aO O) (hP : Quad w.heap.size w aP P) (hL : Fls w.heap.size w aL L) (hK : Kls w.heap.size w aK K) (mT : T.length ≤ 1048576) (mL : L.length ≤ 1048576) (sL : ∀ f ∈ L, f.2.2.length ≤ 1048576) (mK : K.length ≤ 1048576) (sK : ∀ c ∈ K, c.xs.length ≤ 1048576) (h1 : engB now nx T O P L K = true) (i : Nat) (hi : i < K.length) (hf : fK K id = (i : Int)) (hg : inQ 1 n K[i].fl = true) : Calls Tryz.prog 51 #[engV now aT T.length cT aO O.length cO aP P.length cP aL L.length cL aK K.length cK nx, .int .i64 id, .int .i64 n] w (fun e w' => e = .returned (.tuple #[.int .i64 (i : Int), .int .i64 0]) ∧ Below w.heap.size w w') := by
 have sKm : ∀ c ∈ K, c.xs.length ≤ maxLen := fun c hc => Nat.le_trans (sK c hc) (by unfold maxLen; omega)
 have mKm : K.length ≤ maxLen := Nat.le_trans mK (by unfold maxLen; omega)
 have hi0 : ¬ ((i : Int) < 0) := by omega
 have hi' : (i : Int) < (K.length : Int) := by omega
 obtain ⟨b, off, sa, sc, hak, hbl, d0, d13, sm⟩ := hK i hi
 subst hak
 have d6 := d0 6 _ rfl
 have hq : ∀ x, Below w.heap.size w x → x.cell? ⟨b, off + i * 14 + 6, none⟩ = some (.int .i64 K[i].fl) := fun x hx => (hx.cell (by exact hbl)).trans d6
 clear d0 d13 sm d6
 obtain ⟨v, hv⟩ : ∃ v, v = w.alloc (.cells #[.int .i64 now, .slice aT T.length cT, .slice aO O.length cO, .slice aP P.length cP, .slice aL L.length cL, .slice (some ⟨b, off, none⟩) K.length cK, .int .i64 nx] 38) := ⟨_, rfl⟩
 have nb : Below w.heap.size w v := by rw [hv]; go_grown
 have L0 : Lay v w.heap.size [.int .i64 now, .slice aT T.length cT, .slice aO O.length cO, .slice aP P.length cP, .slice aL L.length cL, .slice (some ⟨b, off, none⟩) K.length cK, .int .i64 nx] := by rw [hv]; exact lay_new [.int .i64 now, .slice aT T.length cT, .slice aO O.length cO, .slice aP P.length cP, .slice aL L.length cL, .slice (some ⟨b, off, none⟩) K.length cK, .int .i64 nx] _ rfl
 go_enter Tryz.func51, Tryz.ntmps51
 go_upto_region 1 with (fail)
 rw [← hv]
 clear hv
 obtain ⟨q0, q1, q2, q3, q4, q5, q6⟩ := L0.c7
 go_wp2_with (first | (go_at_call 23; refine (specEngineOk_is cT cO cP cL cK h1 (hT.here nb) (hO.here nb) (hP.here nb) (hL.here nb) (hK.here nb) mT mL mK sKm).mono ?_; rintro e v2 ⟨rfl, hb2⟩; have b2 := below_two nb hb2; have M0 := L0.next hb2; clear q0 q1 q2 q3 q4 q5 q6; obtain ⟨q0, q1, q2, q3, q4, q5, q6⟩ := M0.c7) | (go_at_call 26; refine (specFind_any now nx id (hK.here b2) mKm).mono ?_; rintro e v3 ⟨rfl, hb3⟩; rw [hf]; have b3 := below_two b2 hb3; have N0 := M0.next hb3; clear q0 q1 q2 q3 q4 q5 q6; obtain ⟨q0, q1, q2, q3, q4, q5, q6⟩ := N0.c7; have c6 := hq v3 b3) | (go_at_call 25; refine (inQ_is hg _).mono ?_; rintro e w3 ⟨rfl, e3⟩; replace e3 := e3.symm; subst e3))
 go_ret2
 exact ⟨rfl, b3⟩
set_option maxHeartbeats 8000000 in
theorem specAcked_bad {w : World} (now nx : Int) {aT aO aP aL aK : Option Addr} (cT cO cP cL cK : Nat) {T O P : List Q4} {L : List F8} {K : List Kn} (id n : Int) (hT : Quad w.heap.size w aT T) (hO : Quad w.heap.size w aO O) (hP : Quad w.heap.size w aP P) (hL : Fls w.heap.size w aL L) (hK : Kls w.heap.size w aK K) (mT : T.length ≤ 1048576) (mL : L.length ≤ 1048576) (sL : ∀ f ∈ L, f.2.2.length ≤ 1048576) (mK : K.length ≤ 1048576) (sK : ∀ c ∈ K, c.xs.length ≤ 1048576) (h1 : engB now nx T O P L K = false) : Calls Tryz.prog 14 #[engV now aT T.length cT aO O.length cO aP P.length cP aL L.length cL aK K.length cK nx, .int .i64 id, .int .i64 n] w (EgPost w 0 0 [] [] [] [] [] (.int .i64 1)) := by
 have sKm : ∀ c ∈ K, c.xs.length ≤ maxLen := fun c hc => Nat.le_trans (sK c hc) (by unfold maxLen; omega)
 have mKm : K.length ≤ maxLen := Nat.le_trans mK (by unfold maxLen; omega)
 obtain ⟨v, hv, nb, L0, L1⟩ := pre2 w 38 [.int .i64 now, .slice aT T.length cT, .slice aO O.length cO, .slice aP P.length cP, .slice aL L.length cL, .slice aK K.length cK, .int .i64 nx] [.int .i64 0, .slice none 0 0, .slice none 0 0, .slice none 0 0, .slice none 0 0, .slice none 0 0, .int .i64 0]
 have hw1 := L1.lt
 go_enter Tryz.func14, Tryz.ntmps14
 go_upto_region 1 with (fail)
 rw [← hv]
 clear hv
 obtain ⟨q0, q1, q2, q3, q4, q5, q6⟩ := Lay.c7 (b := w.heap.size) L0
 go_wp2_with (first | (go_at_call 51; refine (flying_bad now nx cT cO cP cL cK id n (hT.here nb) (hO.here nb) (hP.here nb) (hL.here nb) (hK.here nb) mT mL sL mK sK h1).mono ?_; rintro e v2 ⟨rfl, hb2⟩; have b2 := below_two nb hb2; have M0 := L0.next hb2; have M1 := L1.next hb2; clear q0 q1 q2 q3 q4 q5 q6; obtain ⟨q0, q1, q2, q3, q4, q5, q6⟩ := M0.c7) | (go_at_call 24; refine (l14No_bad now nx cT cO cP cL cK).mono ?_; rintro e u1 ⟨bT, dT, bO, dO, bP, dP, bL, dL, bK, dK, rfl, eg, hb1⟩; have HEG : Hid (Eng u1 v2.heap.size u1.heap.size (.slice bT 0 dT) (.slice bO 0 dO) (.slice bP 0 dP) (.slice bL 0 dL) (.slice bK 0 dK) [] [] [] [] []) := eg; have LU := M1.next hb1; obtain ⟨z0, z1, z2, z3, z4, z5, z6⟩ := Lay.c7 (b := w.heap.size + 1) LU; have fz := LU.free))
 obtain ⟨u, hu', ou, U⟩ := st7 (b := w.heap.size + 1) LU (.int .i64 0) (.slice bT 0 dT) (.slice bO 0 dO) (.slice bP 0 dP) (.slice bL 0 dL) (.slice bK 0 dK) (.int .i64 0)
 rw [hu']
 clear hu'
 have zu := ou.size
 have bw := below_two b2 hb1
 have zb := b2.size
 have z2 := hb2.size
 have zbb := b2.size
 refine bodyPost_ret (results_two rfl _ _ _ [.int .i64 0, .slice bT 0 dT, .slice bO 0 dO, .slice bP 0 dP, .slice bL 0 dL, .slice bK 0 dK, .int .i64 0] rfl U.cell Tryz.underlying38 rfl (by kernel_rfl)) rfl ?_
 exact ⟨bT, dT, bO, dO, bP, dP, bL, dL, bK, dK, rfl, engO HEG.out ou (by omega) (by omega) ou.size, bw.trans (ou.below (by omega) bw.size)⟩
set_option maxHeartbeats 8000000 in
theorem specAcked_id {w : World} (now nx : Int) {aT aO aP aL aK : Option Addr} (cT cO cP cL cK : Nat) {T O P : List Q4} {L : List F8} {K : List Kn} (id n : Int) (hT : Quad w.heap.size w aT T) (hO : Quad w.heap.size w aO O) (hP : Quad w.heap.size w aP P) (hL : Fls w.heap.size w aL L) (hK : Kls w.heap.size w aK K) (mT : T.length ≤ 1048576) (mL : L.length ≤ 1048576) (sL : ∀ f ∈ L, f.2.2.length ≤ 1048576) (mK : K.length ≤ 1048576) (sK : ∀ c ∈ K, c.xs.length ≤ 1048576) (h1 : engB now nx T O P L K = true) (hf : fK K id = -1) : Calls Tryz.prog 14 #[engV now aT T.length cT aO O.length cO aP P.length cP aL L.length cL aK K.length cK nx, .int .i64 id, .int .i64 n] w (EgPost w now nx T O P L K (.int .i64 2)) := by
 have sKm : ∀ c ∈ K, c.xs.length ≤ maxLen := fun c hc => Nat.le_trans (sK c hc) (by unfold maxLen; omega)
 have mKm : K.length ≤ maxLen := Nat.le_trans mK (by unfold maxLen; omega)
 obtain ⟨nT, nO, nP⟩ := eg_lens (eg_yes h1)
 obtain ⟨v, hv, nb, L0, L1⟩ := pre2 w 38 [.int .i64 now, .slice aT T.length cT, .slice aO O.length cO, .slice aP P.length cP, .slice aL L.length cL, .slice aK K.length cK, .int .i64 nx] [.int .i64 0, .slice none 0 0, .slice none 0 0, .slice none 0 0, .slice none 0 0, .slice none 0 0, .int .i64 0]
 have hw1 := L1.lt
 go_enter Tryz.func14, Tryz.ntmps14
 go_upto_region 1 with (fail)
 rw [← hv]
 clear hv
 obtain ⟨q0, q1, q2, q3, q4, q5, q6⟩ := Lay.c7 (b := w.heap.size) L0
 go_wp2_with (first | (go_at_call 51; refine (flying_id now nx cT cO cP cL cK id n (hT.here nb) (hO.here nb) (hP.here nb) (hL.here nb) (hK.here nb) mT mL sL mK sK h1 hf).mono ?_; rintro e v2 ⟨rfl, hb2⟩; have b2 := below_two nb hb2; have M0 := L0.next hb2; have M1 := L1.next hb2; clear q0 q1 q2 q3 q4 q5 q6; obtain ⟨q0, q1, q2, q3, q4, q5, q6⟩ := M0.c7) | (go_at_call 24; refine (l14No_code now nx cT cO cP cL cK (hT.here b2) (hO.here b2) (hP.here b2) (hL.here b2) (hK.here b2) nT nO nP mL sL mK sK 2 (by decide)).mono ?_; rintro e u1 ⟨bT, dT, bO, dO, bP, dP, bL, dL, bK, dK, rfl, eg, hb1⟩; have HEG : Hid (Eng u1 v2.heap.size u1.heap.size (.slice bT T.length dT) (.slice bO O.length dO) (.slice bP P.length dP) (.slice bL L.length dL) (.slice bK K.length dK) T O P L K) := eg; have LU := M1.next hb1; obtain ⟨z0, z1, z2, z3, z4, z5, z6⟩ := Lay.c7 (b := w.heap.size + 1) LU; have fz := LU.free))
 obtain ⟨u, hu', ou, U⟩ := st7 (b := w.heap.size + 1) LU (.int .i64 now) (.slice bT T.length dT) (.slice bO O.length dO) (.slice bP P.length dP) (.slice bL L.length dL) (.slice bK K.length dK) (.int .i64 nx)
 rw [hu']
 clear hu'
 have zu := ou.size
 have bw := below_two b2 hb1
 have zb := b2.size
 have z2 := hb2.size
 have zbb := b2.size
 refine bodyPost_ret (results_two rfl _ _ _ [.int .i64 now, .slice bT T.length dT, .slice bO O.length dO, .slice bP P.length dP, .slice bL L.length dL, .slice bK K.length dK, .int .i64 nx] rfl U.cell Tryz.underlying38 rfl (by kernel_rfl)) rfl ?_
 exact ⟨bT, dT, bO, dO, bP, dP, bL, dL, bK, dK, rfl, engO HEG.out ou (by omega) (by omega) ou.size, bw.trans (ou.below (by omega) bw.size)⟩
set_option maxHeartbeats 8000000 in
theorem specAcked_size {w : World} (now nx : Int) {aT aO aP aL aK : Option Addr} (cT cO cP cL cK : Nat) {T O P : List Q4} {L : List F8} {K : List Kn} (id n : Int) (hT : Quad w.heap.size w aT T) (hO : Quad w.heap.size w aO O) (hP : Quad w.heap.size w aP P) (hL : Fls w.heap.size w aL L) (hK : Kls w.heap.size w aK K) (mT : T.length ≤ 1048576) (mL : L.length ≤ 1048576) (sL : ∀ f ∈ L, f.2.2.length ≤ 1048576) (mK : K.length ≤ 1048576) (sK : ∀ c ∈ K, c.xs.length ≤ 1048576) (h1 : engB now nx T O P L K = true) (i : Nat) (hi : i < K.length) (hf : fK K id = (i : Int)) (hg : inQ 1 n K[i].fl = false) : Calls Tryz.prog 14 #[engV now aT T.length cT aO O.length cO aP P.length cP aL L.length cL aK K.length cK nx, .int .i64 id, .int .i64 n] w (EgPost w now nx T O P L K (.int .i64 7)) := by
 have sKm : ∀ c ∈ K, c.xs.length ≤ maxLen := fun c hc => Nat.le_trans (sK c hc) (by unfold maxLen; omega)
 have mKm : K.length ≤ maxLen := Nat.le_trans mK (by unfold maxLen; omega)
 obtain ⟨nT, nO, nP⟩ := eg_lens (eg_yes h1)
 have hi0 : ¬ ((i : Int) < 0) := by omega
 have hi' : (i : Int) < (K.length : Int) := by omega
 obtain ⟨v, hv, nb, L0, L1⟩ := pre2 w 38 [.int .i64 now, .slice aT T.length cT, .slice aO O.length cO, .slice aP P.length cP, .slice aL L.length cL, .slice aK K.length cK, .int .i64 nx] [.int .i64 0, .slice none 0 0, .slice none 0 0, .slice none 0 0, .slice none 0 0, .slice none 0 0, .int .i64 0]
 have hw1 := L1.lt
 go_enter Tryz.func14, Tryz.ntmps14
 go_upto_region 1 with (fail)
 rw [← hv]
 clear hv
 obtain ⟨q0, q1, q2, q3, q4, q5, q6⟩ := Lay.c7 (b := w.heap.size) L0
 go_wp2_with (first | (go_at_call 51; refine (flying_size now nx cT cO cP cL cK id n (hT.here nb) (hO.here nb) (hP.here nb) (hL.here nb) (hK.here nb) mT mL sL mK sK h1 i hi hf hg).mono ?_; rintro e v2 ⟨rfl, hb2⟩; have b2 := below_two nb hb2; have M0 := L0.next hb2; have M1 := L1.next hb2; clear q0 q1 q2 q3 q4 q5 q6; obtain ⟨q0, q1, q2, q3, q4, q5, q6⟩ := M0.c7) | (go_at_call 24; refine (l14No_code now nx cT cO cP cL cK (hT.here b2) (hO.here b2) (hP.here b2) (hL.here b2) (hK.here b2) nT nO nP mL sL mK sK 7 (by decide)).mono ?_; rintro e u1 ⟨bT, dT, bO, dO, bP, dP, bL, dL, bK, dK, rfl, eg, hb1⟩; have HEG : Hid (Eng u1 v2.heap.size u1.heap.size (.slice bT T.length dT) (.slice bO O.length dO) (.slice bP P.length dP) (.slice bL L.length dL) (.slice bK K.length dK) T O P L K) := eg; have LU := M1.next hb1; obtain ⟨z0, z1, z2, z3, z4, z5, z6⟩ := Lay.c7 (b := w.heap.size + 1) LU; have fz := LU.free))
 obtain ⟨u, hu', ou, U⟩ := st7 (b := w.heap.size + 1) LU (.int .i64 now) (.slice bT T.length dT) (.slice bO O.length dO) (.slice bP P.length dP) (.slice bL L.length dL) (.slice bK K.length dK) (.int .i64 nx)
 rw [hu']
 clear hu'
 have zu := ou.size
 have bw := below_two b2 hb1
 have zb := b2.size
 have z2 := hb2.size
 have zbb := b2.size
 refine bodyPost_ret (results_two rfl _ _ _ [.int .i64 now, .slice bT T.length dT, .slice bO O.length dO, .slice bP P.length dP, .slice bL L.length dL, .slice bK K.length dK, .int .i64 nx] rfl U.cell Tryz.underlying38 rfl (by kernel_rfl)) rfl ?_
 exact ⟨bT, dT, bO, dO, bP, dP, bL, dL, bK, dK, rfl, engO HEG.out ou (by omega) (by omega) ou.size, bw.trans (ou.below (by omega) bw.size)⟩
set_option maxHeartbeats 8000000 in
theorem specAcked_go1 {w : World} (now nx : Int) {aT aO aP aL aK : Option Addr} (cT cO cP cL cK : Nat) {T O P : List Q4} {L : List F8} {K : List Kn} (id n : Int) (hT : Quad w.heap.size w aT T) (hO : Quad w.heap.size w aO O) (hP : Quad w.heap.size w aP P) (hL : Fls w.heap.size w aL L) (hK : Kls w.heap.size w aK K) (mT : T.length ≤ 1048576) (mL : L.length ≤ 1048576) (sL : ∀ f ∈ L, f.2.2.length ≤ 1048576) (mK : K.length ≤ 1048576) (sK : ∀ c ∈ K, c.xs.length ≤ 1048576) (h1 : engB now nx T O P L K = true) (i : Nat) (hi : i < K.length) (hf : fK K id = (i : Int)) (hg : inQ 1 n K[i].fl = true) (p : Nat) (hpl : K[i].pl = (p : Int)) (hp : p < L.length) (hk : K[i].k = 1) : Calls Tryz.prog 14 #[engV now aT T.length cT aO O.length cO aP P.length cP aL L.length cL aK K.length cK nx, .int .i64 id, .int .i64 n] w (EgPost w now nx T O P (L.set p (flyP L p n false)) (K.set i (K[i].cc (flyD K[i] n now false))) (.int .i64 0)) := by
 have sKm : ∀ c ∈ K, c.xs.length ≤ maxLen := fun c hc => Nat.le_trans (sK c hc) (by unfold maxLen; omega)
 have mKm : K.length ≤ maxLen := Nat.le_trans mK (by unfold maxLen; omega)
 obtain ⟨nT, nO, nP⟩ := eg_lens (eg_yes h1)
 have l0 := (eg_yes h1).l0
 have hi0 : ¬ ((i : Int) < 0) := by omega
 have hi' : (i : Int) < (K.length : Int) := by omega
 obtain ⟨hn9, hnn1, hff⟩ := fly_n (eg_yes h1) hi hg
 have hpb := ((eg_yes h1).pl p hp).1
 obtain ⟨d, hd⟩ : ∃ d, flyD K[i] n now false = d := ⟨_, rfl⟩
 have HD : Hid (flyD K[i] n now false = d) := hd
 rw [flyP_at hp n false, hd]
 have HPB : Hid (plB L[p].1 L[p].2.1 L[p].2.2 = true) := hpb
 have HNB : Hid (inQ 1 n 1000000000 = true) := hn9
 have HPL : Hid (K[i].pl = (p : Int)) := hpl
 have hp' : (p : Int) < (L.length : Int) := by omega
 have hp0 : (0 : Int) ≤ (p : Int) := by omega
 clear hpb hn9 hd hpl
 have HD' : Hid (ackC 1 K[i].wn K[i].th K[i].fl K[i].ac K[i].la K[i].og K[i].st K[i].fr K[i].sl n = d) := by
   have q := HD.out
   unfold flyD ackD at q
   rw [if_neg (by decide), hk, if_neg (by decide)] at q
   exact q
 have HK : Hid (K[i].k = 1) := hk
 clear hk
 obtain ⟨v, hv, nb, L0, L1⟩ := pre2 w 38 [.int .i64 now, .slice aT T.length cT, .slice aO O.length cO, .slice aP P.length cP, .slice aL L.length cL, .slice aK K.length cK, .int .i64 nx] [.int .i64 0, .slice none 0 0, .slice none 0 0, .slice none 0 0, .slice none 0 0, .slice none 0 0, .int .i64 0]
 have hw1 := L1.lt
 go_enter Tryz.func14, Tryz.ntmps14
 go_upto_region 1 with (fail)
 rw [← hv]
 clear hv
 obtain ⟨q0, q1, q2, q3, q4, q5, q6⟩ := Lay.c7 (b := w.heap.size) L0
 go_upto_region 5 with (first | (go_at_call 51; refine (flying_go now nx cT cO cP cL cK id n (hT.here nb) (hO.here nb) (hP.here nb) (hL.here nb) (hK.here nb) mT mL sL mK sK h1 i hi hf hg).mono ?_; rintro e v2 ⟨rfl, hb2⟩; have b2 := below_two nb hb2; have M0 := L0.next hb2; have M1 := L1.next hb2; clear q0 q1 q2 q3 q4 q5 q6; obtain ⟨q0, q1, q2, q3, q4, q5, q6⟩ := M0.c7) | (go_at_call 29; refine (l14Copy_any now nx cT cO cP cL cK (hT.here b2) (hO.here b2) (hP.here b2) (hL.here b2) (hK.here b2) nT nO nP mL sL mK sK).mono ?_; rintro e u1 ⟨bT, dT, bO, dO, bP, dP, bL, dL, bK, dK, GK, lh, ph, rfl, lv, lb, tv, ck, hz, hb1⟩))
 obtain ⟨uL, uK, eo⟩ := cp_own lv lb tv ck hz
 obtain ⟨gl, hgl, hgl0, hgl1, hgl2⟩ := eo.atL (by omega)
 obtain ⟨gk, hgk, hgk0, hgk1, hgk2⟩ := eo.atK (by omega)
 subst hgl hgk
 have HE : Hid (EOwn u1 v2.heap.size u1.heap.size (.slice bT T.length dT) (.slice bO O.length dO) (.slice bP P.length dP) (.slice (some ⟨gl, 0, none⟩) L.length dL) uL (.slice (some ⟨gk, 0, none⟩) K.length dK) uK T O P L K) := eo
 clear eo lv lb tv ck
 obtain ⟨x, hx⟩ : ∃ x, x = u1.alloc (.cells #[.int .i64 now, .slice bT T.length dT, .slice bO O.length dO, .slice bP P.length dP, .slice (some ⟨gl, 0, none⟩) L.length dL, .slice (some ⟨gk, 0, none⟩) K.length dK, .int .i64 nx] 38) := ⟨_, rfl⟩
 rw [← hx]
 have LX : Lay x u1.heap.size [.int .i64 now, .slice bT T.length dT, .slice bO O.length dO, .slice bP P.length dP, .slice (some ⟨gl, 0, none⟩) L.length dL, .slice (some ⟨gk, 0, none⟩) K.length dK, .int .i64 nx] := by rw [hx]; exact lay_new [.int .i64 now, .slice bT T.length dT, .slice bO O.length dO, .slice bP P.length dP, .slice (some ⟨gl, 0, none⟩) L.length dL, .slice (some ⟨gk, 0, none⟩) K.length dK, .int .i64 nx] _ rfl
 have bx : Below u1.heap.size u1 x := by rw [hx]; exact new_below _ _
 clear hx q0 q1 q2 q3 q4 q5 q6
 have X1 := (M1.next hb1).next bx
 have X0 := (M0.next hb1).next bx
 have z1 := hb1.size
 have zx := bx.size
 have zb := b2.size
 have z2 := hb2.size
 have hlx := LX.lt
 have hn1 := M1.lt
 have bwx : Below w.heap.size w x := below_two (below_two b2 hb1) bx
 obtain ⟨j0, j1, j2, j3, j4, j5, j6⟩ := LX.c7
 obtain ⟨k0, k1, k2, k3, k4, k5, k6, k7, k8, k9, k10, k11, k12⟩ := (HE.out.next bx).con hi
 rw [HK.out] at k3
 go_upto_region 9 with (first | (go_at_call 52; refine (specRenoAck_any _ _ _ _ _ _ _ _ _ _ _ _).mono ?_; rintro e u6 ⟨rfl, b6⟩; rw [HD'.out]; have HEZ : Hid (EOwn u6 v2.heap.size u1.heap.size (.slice bT T.length dT) (.slice bO O.length dO) (.slice bP P.length dP) (.slice (some ⟨gl, 0, none⟩) L.length dL) uL (.slice (some ⟨gk, 0, none⟩) K.length dK) uK T O P L K) := HE.out.next (below_two bx b6); clear k0 k1 k2 k3 k4 k5 k6 k7 k8 k9 k10 k11 k12; obtain ⟨k0, k1, k2, k3, k4, k5, k6, k7, k8, k9, k10, k11, k12⟩ := (HEZ.out).con hi; obtain ⟨f3, f4, f5, f6, f7, f8, f9, f10, f11, f12, f13⟩ := HEZ.out.frz hi))
 clear j0 j1 j2 j3 j4 j5 j6
 obtain ⟨y, hyy⟩ : ∃ z, z = u6.setCells gk (i * 14 + 3) (K[i].cc d).ccs := ⟨_, rfl⟩
 have hy' : ((((((((((u6.setCell ⟨gk, i * 14 + 3, none⟩ (.int .i64 d.k)).setCell ⟨gk, i * 14 + 4, none⟩ (.int .i64 d.wn)).setCell ⟨gk, i * 14 + 5, none⟩ (.int .i64 d.th)).setCell ⟨gk, i * 14 + 6, none⟩ (.int .i64 d.fl)).setCell ⟨gk, i * 14 + 7, none⟩ (.int .i64 d.ac)).setCell ⟨gk, i * 14 + 8, none⟩ (.int .i64 d.la)).setCell ⟨gk, i * 14 + 9, none⟩ (.int .i64 d.og)).setCell ⟨gk, i * 14 + 10, none⟩ (.int .i64 d.st)).setCell ⟨gk, i * 14 + 11, none⟩ (.int .i64 d.fr)).setCell ⟨gk, i * 14 + 12, none⟩ (.bool d.sl)) = y := hyy.symm
 rw [hy']
 clear hy'
 have oy : Only gk u6 y := by rw [hyy]; exact onlyCells _ _ _
 have ey0 := HEZ.out.setCc hi (K[i].cc d) rfl rfl rfl rfl
 rw [← hyy] at ey0
 have EY : Hid (EOwn y v2.heap.size u1.heap.size (.slice bT T.length dT) (.slice bO O.length dO) (.slice bP P.length dP) (.slice (some ⟨gl, 0, none⟩) L.length dL) uL (.slice (some ⟨gk, 0, none⟩) (K.set i (K[i].cc d)).length dK) uK T O P L (K.set i (K[i].cc d))) := ey0
 have k2y : y.cell? ⟨gk, i * 14 + 2, none⟩ = some (.int .i64 (p : Int)) := by
   rw [hyy]
   refine (World.cell?_setCells_out gk _ _ u6 ⟨gk, i * 14 + 2, none⟩ (fun _ _ => .inl (by show i * 14 + 2 < i * 14 + 3; omega))).trans ?_
   rw [← HPL.out]
   exact k2
 clear hyy ey0 k0 k1 k2 k3 k4 k5 k6 k7 k8 k9 k10 k11 k12 f3 f4 f5 f6 f7 f8 f9 f10 f11 f12 f13
 have zoy := oy.size
 have z6 := b6.size
 have LY := (LX.next b6).only oy (by omega)
 have XY := (X1.next b6).only oy (by omega)
 have bwy : Below w.heap.size w y := (bwx.trans (b6.mono (by omega))).trans (oy.below (by omega) (by omega))
 obtain ⟨q0, q1, qf, sa, sc, q2, qu, qsm⟩ := EY.out.plc hp
 have HSM : Hid (ISmp y.heap.size y sa L[p].2.2) := qsm
 have HS : Hid (∀ u, Below y.heap.size y u → u.cell? ⟨u1.heap.size, 4, none⟩ = some (.slice (some ⟨gl, 0, none⟩) L.length dL) ∧ u.cell? ⟨gk, i * 14 + 2, none⟩ = some (.int .i64 (p : Int)) ∧ u.cell? ⟨gl, p * 3, none⟩ = some (.int .i64 L[p].1) ∧ u.cell? ⟨gl, p * 3 + 1, none⟩ = some (.int .i64 L[p].2.1) ∧ u.cell? ⟨gl, p * 3 + 2, none⟩ = some (.slice sa L[p].2.2.length sc)) := fun u hu => ⟨(LY.next hu).cell 4 _ rfl, (hu.cell (by show gk < _; omega)).trans k2y, (hu.cell (by show gl < _; omega)).trans q0, (hu.cell (by show gl < _; omega)).trans q1, (hu.cell (by show gl < _; omega)).trans q2⟩
 clear q0 q1 q2 qf qu qsm k2y
 refine region_late (S := fun w' => w'.cell? ⟨u1.heap.size, 4, none⟩ = some (.slice (some ⟨gl, 0, none⟩) L.length dL) ∧ w'.cell? ⟨gk, i * 14 + 2, none⟩ = some (.int .i64 (p : Int)) ∧ w'.cell? ⟨gl, p * 3, none⟩ = some (.int .i64 L[p].1) ∧ w'.cell? ⟨gl, p * 3 + 1, none⟩ = some (.int .i64 L[p].2.1) ∧ w'.cell? ⟨gl, p * 3 + 2, none⟩ = some (.slice sa L[p].2.2.length sc)) 17 (by kernel_rfl) (HS.out _ (Below.refl _ _).drew) (fun hS => ?_)
 refine lateR 0 rfl ?_
 refine lateR 1 rfl ?_
 refine lateR 2 rfl ?_
 refine lateR 3 rfl ?_
 refine lateR 4 rfl ?_
 refine lateR 5 rfl ?_
 refine lateR 6 rfl ?_
 refine lateR 7 rfl ?_
 refine lateR 8 rfl ?_
 refine lateR 9 rfl ?_
 refine lateR 10 rfl ?_
 refine lateR 11 rfl ?_
 refine lateR 12 rfl ?_
 refine lateR 13 rfl ?_
 refine lateR 14 rfl ?_
 refine late_one (i := 15) (by kernel_rfl) rfl (fun Kr hKr => ?_)
 go_simp
 (refine (specFree_yes sc HPB.out HNB.out (HSM.out.here (Below.refl _ _).drew)).mono ?_; rintro e u5 ⟨va, nv, cv, rfl, iv5, hb5⟩; have nz := iv_lenC iv5; subst nz; have iv5 : IV u5 y.heap.size (.slice va L[p].2.2.length cv) L[p].2.2 := iv5; have hb5 := undrewE hb5; have hS5 := HS.out _ hb5; have HE5 : Hid (EOwn u5 v2.heap.size u1.heap.size (.slice bT T.length dT) (.slice bO O.length dO) (.slice bP P.length dP) (.slice (some ⟨gl, 0, none⟩) L.length dL) uL (.slice (some ⟨gk, 0, none⟩) (K.set i (K[i].cc d)).length dK) uK T O P L (K.set i (K[i].cc d))) := EY.out.next hb5; obtain ⟨p0, p1, ⟨pf0, pf1, pf2⟩, sb, sd, p2, pu, psm⟩ := HE5.out.plc hp)
 refine hKr.out _ _ ‹_› fun _ => ?_
 try simp only [nrm]
 refine late_one (i := 16) (by kernel_rfl) rfl (fun Kr hKr => ?_)
 go_simp
 refine hKr.out _ _ ‹_› fun _ => ?_
 try simp only [nrm]
 refine late_last (by kernel_rfl) rfl (by kernel_rfl) (fun Kr hKr => ?_)
 go_simp
 refine hKr.out _ _ ?_
 try simp only [nrm]
 obtain ⟨z, hzz⟩ : ∃ z, z = u5.setCells gl (p * 3) [.int .i64 (freeW L[p].1 n false), .int .i64 (max 0 (L[p].2.1 - n)), .slice va L[p].2.2.length cv] := ⟨_, rfl⟩
 have hz' : ((u5.setCell ⟨gl, p * 3, none⟩ (.int .i64 (freeW L[p].1 n false))).setCell ⟨gl, p * 3 + 1, none⟩ (.int .i64 (max 0 (L[p].2.1 - n)))).setCell ⟨gl, p * 3 + 2, none⟩ (.slice va L[p].2.2.length cv) = z := hzz.symm
 rw [hz']
 clear hz' p0 p1 pf0 pf1 pf2 p2 pu psm
 have z5 := hb5.size
 have ez := HE5.out.setP (hi' := u5.heap.size) (q := freeW L[p].1 n false) (d := max 0 (L[p].2.1 - n)) hp (iv5.io.wider (by omega) (Nat.le_refl _)) (fun b hb => .inr (fun hn => by have := (iv5.io.el hb).1; have := HE5.out.bd hn; omega)) (by omega) (Nat.le_refl _)
 rw [← hzz] at ez
 have oz : Only gl u5 z := by rw [hzz]; exact onlyCells _ _ _
 clear hzz
 have LZ := (LY.next hb5).only oz (by omega)
 have XZ := (XY.next hb5).only oz (by omega)
 have zoz := oz.size
 obtain ⟨j0, j1, j2, j3, j4, j5, j6⟩ := LZ.c7
 obtain ⟨r0, r1, r2, r3, r4, r5, r6⟩ := XZ.c7
 have rf := XZ.free
 go_wp2
 obtain ⟨u, hu', ou, U⟩ := st7 (b := w.heap.size + 1) XZ (.int .i64 now) (.slice bT T.length dT) (.slice bO O.length dO) (.slice bP P.length dP) (.slice (some ⟨gl, 0, none⟩) L.length dL) (.slice (some ⟨gk, 0, none⟩) K.length dK) (.int .i64 nx)
 rw [hu']
 clear hu'
 have bwz : Below w.heap.size w z := (bwy.trans (hb5.mono (by omega))).trans (oz.below (by omega) (by omega))
 have hnn : ¬ inE (.slice bT T.length dT) (.slice bO O.length dO) (.slice bP P.length dP) (.slice (some ⟨gl, 0, none⟩) (L.set p (freeW L[p].1 n false, max 0 (L[p].2.1 - n), L[p].2.2)).length dL) (uL.set p (.slice va L[p].2.2.length cv)) (.slice (some ⟨gk, 0, none⟩) (K.set i (K[i].cc d)).length dK) uK (w.heap.size + 1) := fun hb => by have := ez.bd hb; omega
 have eu := ez.only ou hnn
 have zu := ou.size
 refine bodyPost_ret (results_two rfl _ _ _ [.int .i64 now, .slice bT T.length dT, .slice bO O.length dO, .slice bP P.length dP, .slice (some ⟨gl, 0, none⟩) L.length dL, .slice (some ⟨gk, 0, none⟩) K.length dK, .int .i64 nx] rfl U.cell Tryz.underlying38 rfl (by kernel_rfl)) rfl ?_
 exact ⟨bT, dT, bO, dO, bP, dP, some ⟨gl, 0, none⟩, dL, some ⟨gk, 0, none⟩, dK, by rw [List.length_set, List.length_set]; rfl, eu.eng.wider (by omega) (by omega), bwz.trans (ou.below (by omega) bwz.size)⟩
set_option maxHeartbeats 8000000 in
theorem specAcked_go2 {w : World} (now nx : Int) {aT aO aP aL aK : Option Addr} (cT cO cP cL cK : Nat) {T O P : List Q4} {L : List F8} {K : List Kn} (id n : Int) (hT : Quad w.heap.size w aT T) (hO : Quad w.heap.size w aO O) (hP : Quad w.heap.size w aP P) (hL : Fls w.heap.size w aL L) (hK : Kls w.heap.size w aK K) (mT : T.length ≤ 1048576) (mL : L.length ≤ 1048576) (sL : ∀ f ∈ L, f.2.2.length ≤ 1048576) (mK : K.length ≤ 1048576) (sK : ∀ c ∈ K, c.xs.length ≤ 1048576) (h1 : engB now nx T O P L K = true) (i : Nat) (hi : i < K.length) (hf : fK K id = (i : Int)) (hg : inQ 1 n K[i].fl = true) (p : Nat) (hpl : K[i].pl = (p : Int)) (hp : p < L.length) (hk : K[i].k = 2) : Calls Tryz.prog 14 #[engV now aT T.length cT aO O.length cO aP P.length cP aL L.length cL aK K.length cK nx, .int .i64 id, .int .i64 n] w (EgPost w now nx T O P (L.set p (flyP L p n false)) (K.set i (K[i].cc (flyD K[i] n now false))) (.int .i64 0)) := by
 have sKm : ∀ c ∈ K, c.xs.length ≤ maxLen := fun c hc => Nat.le_trans (sK c hc) (by unfold maxLen; omega)
 have mKm : K.length ≤ maxLen := Nat.le_trans mK (by unfold maxLen; omega)
 obtain ⟨nT, nO, nP⟩ := eg_lens (eg_yes h1)
 have l0 := (eg_yes h1).l0
 have hi0 : ¬ ((i : Int) < 0) := by omega
 have hi' : (i : Int) < (K.length : Int) := by omega
 obtain ⟨hn9, hnn1, hff⟩ := fly_n (eg_yes h1) hi hg
 have hpb := ((eg_yes h1).pl p hp).1
 obtain ⟨d, hd⟩ : ∃ d, flyD K[i] n now false = d := ⟨_, rfl⟩
 have HD : Hid (flyD K[i] n now false = d) := hd
 rw [flyP_at hp n false, hd]
 have HPB : Hid (plB L[p].1 L[p].2.1 L[p].2.2 = true) := hpb
 have HNB : Hid (inQ 1 n 1000000000 = true) := hn9
 have HPL : Hid (K[i].pl = (p : Int)) := hpl
 have hp' : (p : Int) < (L.length : Int) := by omega
 have hp0 : (0 : Int) ≤ (p : Int) := by omega
 clear hpb hn9 hd hpl
 have HD' : Hid (cubC 2 K[i].wn K[i].th K[i].fl K[i].ac K[i].la K[i].og K[i].st K[i].fr K[i].sl n now = d) := by
   have q := HD.out
   unfold flyD ackD at q
   rw [if_neg (by decide), hk, if_pos rfl] at q
   exact q
 have HK : Hid (K[i].k = 2) := hk
 clear hk
 obtain ⟨v, hv, nb, L0, L1⟩ := pre2 w 38 [.int .i64 now, .slice aT T.length cT, .slice aO O.length cO, .slice aP P.length cP, .slice aL L.length cL, .slice aK K.length cK, .int .i64 nx] [.int .i64 0, .slice none 0 0, .slice none 0 0, .slice none 0 0, .slice none 0 0, .slice none 0 0, .int .i64 0]
 have hw1 := L1.lt
 go_enter Tryz.func14, Tryz.ntmps14
 go_upto_region 1 with (fail)
 rw [← hv]
 clear hv
 obtain ⟨q0, q1, q2, q3, q4, q5, q6⟩ := Lay.c7 (b := w.heap.size) L0
 go_upto_region 5 with (first | (go_at_call 51; refine (flying_go now nx cT cO cP cL cK id n (hT.here nb) (hO.here nb) (hP.here nb) (hL.here nb) (hK.here nb) mT mL sL mK sK h1 i hi hf hg).mono ?_; rintro e v2 ⟨rfl, hb2⟩; have b2 := below_two nb hb2; have M0 := L0.next hb2; have M1 := L1.next hb2; clear q0 q1 q2 q3 q4 q5 q6; obtain ⟨q0, q1, q2, q3, q4, q5, q6⟩ := M0.c7) | (go_at_call 29; refine (l14Copy_any now nx cT cO cP cL cK (hT.here b2) (hO.here b2) (hP.here b2) (hL.here b2) (hK.here b2) nT nO nP mL sL mK sK).mono ?_; rintro e u1 ⟨bT, dT, bO, dO, bP, dP, bL, dL, bK, dK, GK, lh, ph, rfl, lv, lb, tv, ck, hz, hb1⟩))
 obtain ⟨uL, uK, eo⟩ := cp_own lv lb tv ck hz
 obtain ⟨gl, hgl, hgl0, hgl1, hgl2⟩ := eo.atL (by omega)
 obtain ⟨gk, hgk, hgk0, hgk1, hgk2⟩ := eo.atK (by omega)
 subst hgl hgk
 have HE : Hid (EOwn u1 v2.heap.size u1.heap.size (.slice bT T.length dT) (.slice bO O.length dO) (.slice bP P.length dP) (.slice (some ⟨gl, 0, none⟩) L.length dL) uL (.slice (some ⟨gk, 0, none⟩) K.length dK) uK T O P L K) := eo
 clear eo lv lb tv ck
 obtain ⟨x, hx⟩ : ∃ x, x = u1.alloc (.cells #[.int .i64 now, .slice bT T.length dT, .slice bO O.length dO, .slice bP P.length dP, .slice (some ⟨gl, 0, none⟩) L.length dL, .slice (some ⟨gk, 0, none⟩) K.length dK, .int .i64 nx] 38) := ⟨_, rfl⟩
 rw [← hx]
 have LX : Lay x u1.heap.size [.int .i64 now, .slice bT T.length dT, .slice bO O.length dO, .slice bP P.length dP, .slice (some ⟨gl, 0, none⟩) L.length dL, .slice (some ⟨gk, 0, none⟩) K.length dK, .int .i64 nx] := by rw [hx]; exact lay_new [.int .i64 now, .slice bT T.length dT, .slice bO O.length dO, .slice bP P.length dP, .slice (some ⟨gl, 0, none⟩) L.length dL, .slice (some ⟨gk, 0, none⟩) K.length dK, .int .i64 nx] _ rfl
 have bx : Below u1.heap.size u1 x := by rw [hx]; exact new_below _ _
 clear hx q0 q1 q2 q3 q4 q5 q6
 have X1 := (M1.next hb1).next bx
 have X0 := (M0.next hb1).next bx
 have z1 := hb1.size
 have zx := bx.size
 have zb := b2.size
 have z2 := hb2.size
 have hlx := LX.lt
 have hn1 := M1.lt
 have bwx : Below w.heap.size w x := below_two (below_two b2 hb1) bx
 obtain ⟨j0, j1, j2, j3, j4, j5, j6⟩ := LX.c7
 obtain ⟨k0, k1, k2, k3, k4, k5, k6, k7, k8, k9, k10, k11, k12⟩ := (HE.out.next bx).con hi
 rw [HK.out] at k3
 go_upto_region 8 with (fail)
 clear j0 j1 j2 j3 j4 j5 j6 k0 k1 k2 k3 k4 k5 k6 k7 k8 k9 k10 k11 k12
 have HS8 : Hid (∀ u, Below x.heap.size x u → u.cell? ⟨gk, i * 14 + 3, none⟩ = some (.int .i64 2) ∧ u.cell? ⟨gk, i * 14 + 4, none⟩ = some (.int .i64 K[i].wn) ∧ u.cell? ⟨gk, i * 14 + 5, none⟩ = some (.int .i64 K[i].th) ∧ u.cell? ⟨gk, i * 14 + 6, none⟩ = some (.int .i64 K[i].fl) ∧ u.cell? ⟨gk, i * 14 + 7, none⟩ = some (.int .i64 K[i].ac) ∧ u.cell? ⟨gk, i * 14 + 8, none⟩ = some (.int .i64 K[i].la) ∧ u.cell? ⟨gk, i * 14 + 9, none⟩ = some (.int .i64 K[i].og) ∧ u.cell? ⟨gk, i * 14 + 10, none⟩ = some (.int .i64 K[i].st) ∧ u.cell? ⟨gk, i * 14 + 11, none⟩ = some (.int .i64 K[i].fr) ∧ u.cell? ⟨gk, i * 14 + 12, none⟩ = some (.bool K[i].sl) ∧ u.cell? ⟨w.heap.size, 0, none⟩ = some (.int .i64 now)) := fun u hu => by
   obtain ⟨k0, k1, k2, k3, k4, k5, k6, k7, k8, k9, k10, k11, k12⟩ := (HE.out.next (below_two bx hu)).con hi
   rw [HK.out] at k3
   exact ⟨k3, k4, k5, k6, k7, k8, k9, k10, k11, k12, (X0.next hu).cell 0 _ rfl⟩
 refine region_late (S := fun w' => w'.cell? ⟨gk, i * 14 + 3, none⟩ = some (.int .i64 2) ∧ w'.cell? ⟨gk, i * 14 + 4, none⟩ = some (.int .i64 K[i].wn) ∧ w'.cell? ⟨gk, i * 14 + 5, none⟩ = some (.int .i64 K[i].th) ∧ w'.cell? ⟨gk, i * 14 + 6, none⟩ = some (.int .i64 K[i].fl) ∧ w'.cell? ⟨gk, i * 14 + 7, none⟩ = some (.int .i64 K[i].ac) ∧ w'.cell? ⟨gk, i * 14 + 8, none⟩ = some (.int .i64 K[i].la) ∧ w'.cell? ⟨gk, i * 14 + 9, none⟩ = some (.int .i64 K[i].og) ∧ w'.cell? ⟨gk, i * 14 + 10, none⟩ = some (.int .i64 K[i].st) ∧ w'.cell? ⟨gk, i * 14 + 11, none⟩ = some (.int .i64 K[i].fr) ∧ w'.cell? ⟨gk, i * 14 + 12, none⟩ = some (.bool K[i].sl) ∧ w'.cell? ⟨w.heap.size, 0, none⟩ = some (.int .i64 now)) 11 (by kernel_rfl) (HS8.out _ (Below.refl _ _).drew) (fun hS => ?_)
 refine lateR 0 rfl ?_
 refine lateR 1 rfl ?_
 refine lateR 2 rfl ?_
 refine lateR 3 rfl ?_
 refine lateR 4 rfl ?_
 refine lateR 5 rfl ?_
 refine lateR 6 rfl ?_
 refine lateR 7 rfl ?_
 refine late_one (i := 8) (by kernel_rfl) rfl (fun Kr hKr => ?_)
 go_simp
 (refine (specCubicAck_any _ _ _ _ _ _ _ _ _ _ _ _ _).mono ?_; rintro e u6 ⟨rfl, b6⟩; rw [HD'.out]; have b6 := undrewE b6; have hS6 := HS8.out _ b6; have HEZ : Hid (EOwn u6 v2.heap.size u1.heap.size (.slice bT T.length dT) (.slice bO O.length dO) (.slice bP P.length dP) (.slice (some ⟨gl, 0, none⟩) L.length dL) uL (.slice (some ⟨gk, 0, none⟩) K.length dK) uK T O P L K) := HE.out.next (below_two bx b6); obtain ⟨k0, k1, k2, k3, k4, k5, k6, k7, k8, k9, k10, k11, k12⟩ := (HEZ.out).con hi; obtain ⟨f3, f4, f5, f6, f7, f8, f9, f10, f11, f12, f13⟩ := HEZ.out.frz hi)
 refine hKr.out _ _ ‹_› fun _ => ?_
 try simp only [nrm]
 refine late_one (i := 9) (by kernel_rfl) rfl (fun Kr hKr => ?_)
 go_simp
 refine hKr.out _ _ ‹_› fun _ => ?_
 try simp only [nrm]
 refine late_one (i := 10) (by kernel_rfl) rfl (fun Kr hKr => ?_)
 go_simp
 refine hKr.out _ _ ‹_› fun _ => ?_
 try simp only [nrm]
 refine late_last (by kernel_rfl) rfl (by kernel_rfl) (fun Kr hKr => ?_)
 go_simp
 refine hKr.out _ _ ?_
 try simp only [nrm]
 obtain ⟨y, hyy⟩ : ∃ z, z = u6.setCells gk (i * 14 + 3) (K[i].cc d).ccs := ⟨_, rfl⟩
 have hy' : ((((((((((u6.setCell ⟨gk, i * 14 + 3, none⟩ (.int .i64 d.k)).setCell ⟨gk, i * 14 + 4, none⟩ (.int .i64 d.wn)).setCell ⟨gk, i * 14 + 5, none⟩ (.int .i64 d.th)).setCell ⟨gk, i * 14 + 6, none⟩ (.int .i64 d.fl)).setCell ⟨gk, i * 14 + 7, none⟩ (.int .i64 d.ac)).setCell ⟨gk, i * 14 + 8, none⟩ (.int .i64 d.la)).setCell ⟨gk, i * 14 + 9, none⟩ (.int .i64 d.og)).setCell ⟨gk, i * 14 + 10, none⟩ (.int .i64 d.st)).setCell ⟨gk, i * 14 + 11, none⟩ (.int .i64 d.fr)).setCell ⟨gk, i * 14 + 12, none⟩ (.bool d.sl)) = y := hyy.symm
 rw [hy']
 clear hy'
 have oy : Only gk u6 y := by rw [hyy]; exact onlyCells _ _ _
 have ey0 := HEZ.out.setCc hi (K[i].cc d) rfl rfl rfl rfl
 rw [← hyy] at ey0
 have EY : Hid (EOwn y v2.heap.size u1.heap.size (.slice bT T.length dT) (.slice bO O.length dO) (.slice bP P.length dP) (.slice (some ⟨gl, 0, none⟩) L.length dL) uL (.slice (some ⟨gk, 0, none⟩) (K.set i (K[i].cc d)).length dK) uK T O P L (K.set i (K[i].cc d))) := ey0
 have k2y : y.cell? ⟨gk, i * 14 + 2, none⟩ = some (.int .i64 (p : Int)) := by
   rw [hyy]
   refine (World.cell?_setCells_out gk _ _ u6 ⟨gk, i * 14 + 2, none⟩ (fun _ _ => .inl (by show i * 14 + 2 < i * 14 + 3; omega))).trans ?_
   rw [← HPL.out]
   exact k2
 clear hyy ey0 k0 k1 k2 k3 k4 k5 k6 k7 k8 k9 k10 k11 k12 f3 f4 f5 f6 f7 f8 f9 f10 f11 f12 f13
 have zoy := oy.size
 have z6 := b6.size
 have LY := (LX.next b6).only oy (by omega)
 have XY := (X1.next b6).only oy (by omega)
 have bwy : Below w.heap.size w y := (bwx.trans (b6.mono (by omega))).trans (oy.below (by omega) (by omega))
 go_upto_region 9 with (fail)
 obtain ⟨q0, q1, qf, sa, sc, q2, qu, qsm⟩ := EY.out.plc hp
 have HSM : Hid (ISmp y.heap.size y sa L[p].2.2) := qsm
 have HS : Hid (∀ u, Below y.heap.size y u → u.cell? ⟨u1.heap.size, 4, none⟩ = some (.slice (some ⟨gl, 0, none⟩) L.length dL) ∧ u.cell? ⟨gk, i * 14 + 2, none⟩ = some (.int .i64 (p : Int)) ∧ u.cell? ⟨gl, p * 3, none⟩ = some (.int .i64 L[p].1) ∧ u.cell? ⟨gl, p * 3 + 1, none⟩ = some (.int .i64 L[p].2.1) ∧ u.cell? ⟨gl, p * 3 + 2, none⟩ = some (.slice sa L[p].2.2.length sc)) := fun u hu => ⟨(LY.next hu).cell 4 _ rfl, (hu.cell (by show gk < _; omega)).trans k2y, (hu.cell (by show gl < _; omega)).trans q0, (hu.cell (by show gl < _; omega)).trans q1, (hu.cell (by show gl < _; omega)).trans q2⟩
 clear q0 q1 q2 qf qu qsm k2y
 refine region_late (S := fun w' => w'.cell? ⟨u1.heap.size, 4, none⟩ = some (.slice (some ⟨gl, 0, none⟩) L.length dL) ∧ w'.cell? ⟨gk, i * 14 + 2, none⟩ = some (.int .i64 (p : Int)) ∧ w'.cell? ⟨gl, p * 3, none⟩ = some (.int .i64 L[p].1) ∧ w'.cell? ⟨gl, p * 3 + 1, none⟩ = some (.int .i64 L[p].2.1) ∧ w'.cell? ⟨gl, p * 3 + 2, none⟩ = some (.slice sa L[p].2.2.length sc)) 17 (by kernel_rfl) (HS.out _ (Below.refl _ _).drew) (fun hS => ?_)
 refine lateR 0 rfl ?_
 refine lateR 1 rfl ?_
 refine lateR 2 rfl ?_
 refine lateR 3 rfl ?_
 refine lateR 4 rfl ?_
 refine lateR 5 rfl ?_
 refine lateR 6 rfl ?_
 refine lateR 7 rfl ?_
 refine lateR 8 rfl ?_
 refine lateR 9 rfl ?_
 refine lateR 10 rfl ?_
 refine lateR 11 rfl ?_
 refine lateR 12 rfl ?_
 refine lateR 13 rfl ?_
 refine lateR 14 rfl ?_
 refine late_one (i := 15) (by kernel_rfl) rfl (fun Kr hKr => ?_)
 go_simp
 (refine (specFree_yes sc HPB.out HNB.out (HSM.out.here (Below.refl _ _).drew)).mono ?_; rintro e u5 ⟨va, nv, cv, rfl, iv5, hb5⟩; have nz := iv_lenC iv5; subst nz; have iv5 : IV u5 y.heap.size (.slice va L[p].2.2.length cv) L[p].2.2 := iv5; have hb5 := undrewE hb5; have hS5 := HS.out _ hb5; have HE5 : Hid (EOwn u5 v2.heap.size u1.heap.size (.slice bT T.length dT) (.slice bO O.length dO) (.slice bP P.length dP) (.slice (some ⟨gl, 0, none⟩) L.length dL) uL (.slice (some ⟨gk, 0, none⟩) (K.set i (K[i].cc d)).length dK) uK T O P L (K.set i (K[i].cc d))) := EY.out.next hb5; obtain ⟨p0, p1, ⟨pf0, pf1, pf2⟩, sb, sd, p2, pu, psm⟩ := HE5.out.plc hp)
 refine hKr.out _ _ ‹_› fun _ => ?_
 try simp only [nrm]
 refine late_one (i := 16) (by kernel_rfl) rfl (fun Kr hKr => ?_)
 go_simp
 refine hKr.out _ _ ‹_› fun _ => ?_
 try simp only [nrm]
 refine late_last (by kernel_rfl) rfl (by kernel_rfl) (fun Kr hKr => ?_)
 go_simp
 refine hKr.out _ _ ?_
 try simp only [nrm]
 obtain ⟨z, hzz⟩ : ∃ z, z = u5.setCells gl (p * 3) [.int .i64 (freeW L[p].1 n false), .int .i64 (max 0 (L[p].2.1 - n)), .slice va L[p].2.2.length cv] := ⟨_, rfl⟩
 have hz' : ((u5.setCell ⟨gl, p * 3, none⟩ (.int .i64 (freeW L[p].1 n false))).setCell ⟨gl, p * 3 + 1, none⟩ (.int .i64 (max 0 (L[p].2.1 - n)))).setCell ⟨gl, p * 3 + 2, none⟩ (.slice va L[p].2.2.length cv) = z := hzz.symm
 rw [hz']
 clear hz' p0 p1 pf0 pf1 pf2 p2 pu psm
 have z5 := hb5.size
 have ez := HE5.out.setP (hi' := u5.heap.size) (q := freeW L[p].1 n false) (d := max 0 (L[p].2.1 - n)) hp (iv5.io.wider (by omega) (Nat.le_refl _)) (fun b hb => .inr (fun hn => by have := (iv5.io.el hb).1; have := HE5.out.bd hn; omega)) (by omega) (Nat.le_refl _)
 rw [← hzz] at ez
 have oz : Only gl u5 z := by rw [hzz]; exact onlyCells _ _ _
 clear hzz
 have LZ := (LY.next hb5).only oz (by omega)
 have XZ := (XY.next hb5).only oz (by omega)
 have zoz := oz.size
 obtain ⟨j0, j1, j2, j3, j4, j5, j6⟩ := LZ.c7
 obtain ⟨r0, r1, r2, r3, r4, r5, r6⟩ := XZ.c7
 have rf := XZ.free
 go_wp2
 obtain ⟨u, hu', ou, U⟩ := st7 (b := w.heap.size + 1) XZ (.int .i64 now) (.slice bT T.length dT) (.slice bO O.length dO) (.slice bP P.length dP) (.slice (some ⟨gl, 0, none⟩) L.length dL) (.slice (some ⟨gk, 0, none⟩) K.length dK) (.int .i64 nx)
 rw [hu']
 clear hu'
 have bwz : Below w.heap.size w z := (bwy.trans (hb5.mono (by omega))).trans (oz.below (by omega) (by omega))
 have hnn : ¬ inE (.slice bT T.length dT) (.slice bO O.length dO) (.slice bP P.length dP) (.slice (some ⟨gl, 0, none⟩) (L.set p (freeW L[p].1 n false, max 0 (L[p].2.1 - n), L[p].2.2)).length dL) (uL.set p (.slice va L[p].2.2.length cv)) (.slice (some ⟨gk, 0, none⟩) (K.set i (K[i].cc d)).length dK) uK (w.heap.size + 1) := fun hb => by have := ez.bd hb; omega
 have eu := ez.only ou hnn
 have zu := ou.size
 refine bodyPost_ret (results_two rfl _ _ _ [.int .i64 now, .slice bT T.length dT, .slice bO O.length dO, .slice bP P.length dP, .slice (some ⟨gl, 0, none⟩) L.length dL, .slice (some ⟨gk, 0, none⟩) K.length dK, .int .i64 nx] rfl U.cell Tryz.underlying38 rfl (by kernel_rfl)) rfl ?_
 exact ⟨bT, dT, bO, dO, bP, dP, some ⟨gl, 0, none⟩, dL, some ⟨gk, 0, none⟩, dK, by rw [List.length_set, List.length_set]; rfl, eu.eng.wider (by omega) (by omega), bwz.trans (ou.below (by omega) bwz.size)⟩
set_option maxHeartbeats 4000000 in
theorem ackedBy_any (k wn th fl ac la og st fr : Int) (sl : Bool) (n now : Int) (w : World) : Calls Tryz.prog 120 #[.agg #[.int .i64 k, .int .i64 wn, .int .i64 th, .int .i64 fl, .int .i64 ac, .int .i64 la, .int .i64 og, .int .i64 st, .int .i64 fr, .bool sl], .int .i64 n, .int .i64 now] w fun e w' => e = .returned (.agg #[.int .i64 ((ackD k wn th fl ac la og st fr sl n now).k), .int .i64 ((ackD k wn th fl ac la og st fr sl n now).wn), .int .i64 ((ackD k wn th fl ac la og st fr sl n now).th), .int .i64 ((ackD k wn th fl ac la og st fr sl n now).fl), .int .i64 ((ackD k wn th fl ac la og st fr sl n now).ac), .int .i64 ((ackD k wn th fl ac la og st fr sl n now).la), .int .i64 ((ackD k wn th fl ac la og st fr sl n now).og), .int .i64 ((ackD k wn th fl ac la og st fr sl n now).st), .int .i64 ((ackD k wn th fl ac la og st fr sl n now).fr), .bool (ackD k wn th fl ac la og st fr sl n now).sl]) ∧ Below w.heap.size w w' := by
 obtain ⟨d, hd⟩ : ∃ d, ackD k wn th fl ac la og st fr sl n now = d := ⟨_, rfl⟩
 have HD : Hid (ackD k wn th fl ac la og st fr sl n now = d) := hd
 rw [hd]
 clear hd
 by_cases h2 : k = 2
 · subst h2
   have HD' : Hid (cubC 2 wn th fl ac la og st fr sl n now = d) := by have := HD.out; unfold ackD at this; rw [if_pos rfl] at this; exact this
   obtain ⟨v, hv, nb, L0, L1⟩ := pre2 w 62 [.int .i64 2, .int .i64 wn, .int .i64 th, .int .i64 fl, .int .i64 ac, .int .i64 la, .int .i64 og, .int .i64 st, .int .i64 fr, .bool sl] [.int .i64 0, .int .i64 0, .int .i64 0, .int .i64 0, .int .i64 0, .int .i64 0, .int .i64 0, .int .i64 0, .int .i64 0, .bool false]
   have hw1 := L1.lt
   go_enter Tryz.func120, Tryz.ntmps120
   go_upto_region 1 with (fail)
   rw [← hv]
   clear hv
   obtain ⟨b0, b1, b2, b3, b4, b5, b6, b7, b8, b9⟩ := L0.c10
   go_wp2_with (first | (go_at_call 160; refine (implCubicAck_any _ _ _ _ _ _ _ _ _ _ _ _ _).mono ?_; rintro e y1 ⟨rfl, hby⟩; rw [HD'.out]; have M1 := L1.next hby; obtain ⟨c0, c1, c2, c3, c4, c5, c6, c7, c8, c9⟩ := M1.c10; have cf := M1.free))
   obtain ⟨u, hu⟩ : ∃ u, u = y1.setCells (w.heap.size + 1) 0 [.int .i64 d.k, .int .i64 d.wn, .int .i64 d.th, .int .i64 d.fl, .int .i64 d.ac, .int .i64 d.la, .int .i64 d.og, .int .i64 d.st, .int .i64 d.fr, .bool d.sl] := ⟨_, rfl⟩
   have hu' : ((((((((((y1.setCell ⟨w.heap.size + 1, 0, none⟩ (.int .i64 d.k)).setCell ⟨w.heap.size + 1, 1, none⟩ (.int .i64 d.wn)).setCell ⟨w.heap.size + 1, 2, none⟩ (.int .i64 d.th)).setCell ⟨w.heap.size + 1, 3, none⟩ (.int .i64 d.fl)).setCell ⟨w.heap.size + 1, 4, none⟩ (.int .i64 d.ac)).setCell ⟨w.heap.size + 1, 5, none⟩ (.int .i64 d.la)).setCell ⟨w.heap.size + 1, 6, none⟩ (.int .i64 d.og)).setCell ⟨w.heap.size + 1, 7, none⟩ (.int .i64 d.st)).setCell ⟨w.heap.size + 1, 8, none⟩ (.int .i64 d.fr)).setCell ⟨w.heap.size + 1, 9, none⟩ (.bool d.sl)) = u := hu.symm
   rw [hu']
   clear hu'
   have ou : Only (w.heap.size + 1) y1 u := by rw [hu]; exact onlyCells _ _ _
   have U : Lay u (w.heap.size + 1) [.int .i64 d.k, .int .i64 d.wn, .int .i64 d.th, .int .i64 d.fl, .int .i64 d.ac, .int .i64 d.la, .int .i64 d.og, .int .i64 d.st, .int .i64 d.fr, .bool d.sl] := by rw [hu]; exact M1.put (p := []) (q := [.int .i64 0, .int .i64 0, .int .i64 0, .int .i64 0, .int .i64 0, .int .i64 0, .int .i64 0, .int .i64 0, .int .i64 0, .bool false]) (r := []) [.int .i64 d.k, .int .i64 d.wn, .int .i64 d.th, .int .i64 d.fl, .int .i64 d.ac, .int .i64 d.la, .int .i64 d.og, .int .i64 d.st, .int .i64 d.fr, .bool d.sl] rfl
   clear hu
   have bw : Below w.heap.size w y1 := below_two nb hby
   refine bodyPost_ret (results_one rfl _ _ _ [.int .i64 d.k, .int .i64 d.wn, .int .i64 d.th, .int .i64 d.fl, .int .i64 d.ac, .int .i64 d.la, .int .i64 d.og, .int .i64 d.st, .int .i64 d.fr, .bool d.sl] rfl U.cell Tryz.underlying62 rfl (by kernel_rfl)) rfl ?_
   exact ⟨rfl, bw.trans (ou.below (by omega) bw.size)⟩
 · have HD' : Hid (ackC k wn th fl ac la og st fr sl n = d) := by have := HD.out; unfold ackD at this; rw [if_neg h2] at this; exact this
   have h2' : (k == 2) = false := by simp [h2]
   clear h2
   obtain ⟨v, hv, nb, L0, L1⟩ := pre2 w 62 [.int .i64 k, .int .i64 wn, .int .i64 th, .int .i64 fl, .int .i64 ac, .int .i64 la, .int .i64 og, .int .i64 st, .int .i64 fr, .bool sl] [.int .i64 0, .int .i64 0, .int .i64 0, .int .i64 0, .int .i64 0, .int .i64 0, .int .i64 0, .int .i64 0, .int .i64 0, .bool false]
   have hw1 := L1.lt
   go_enter Tryz.func120, Tryz.ntmps120
   go_upto_region 1 with (fail)
   rw [← hv]
   clear hv
   obtain ⟨b0, b1, b2, b3, b4, b5, b6, b7, b8, b9⟩ := L0.c10
   go_wp2_with (first | (go_at_call 161; refine (implRenoAck_any _ _ _ _ _ _ _ _ _ _ _ _).mono ?_; rintro e y1 ⟨rfl, hby⟩; rw [HD'.out]; have M1 := L1.next hby; obtain ⟨c0, c1, c2, c3, c4, c5, c6, c7, c8, c9⟩ := M1.c10; have cf := M1.free))
   obtain ⟨u, hu⟩ : ∃ u, u = y1.setCells (w.heap.size + 1) 0 [.int .i64 d.k, .int .i64 d.wn, .int .i64 d.th, .int .i64 d.fl, .int .i64 d.ac, .int .i64 d.la, .int .i64 d.og, .int .i64 d.st, .int .i64 d.fr, .bool d.sl] := ⟨_, rfl⟩
   have hu' : ((((((((((y1.setCell ⟨w.heap.size + 1, 0, none⟩ (.int .i64 d.k)).setCell ⟨w.heap.size + 1, 1, none⟩ (.int .i64 d.wn)).setCell ⟨w.heap.size + 1, 2, none⟩ (.int .i64 d.th)).setCell ⟨w.heap.size + 1, 3, none⟩ (.int .i64 d.fl)).setCell ⟨w.heap.size + 1, 4, none⟩ (.int .i64 d.ac)).setCell ⟨w.heap.size + 1, 5, none⟩ (.int .i64 d.la)).setCell ⟨w.heap.size + 1, 6, none⟩ (.int .i64 d.og)).setCell ⟨w.heap.size + 1, 7, none⟩ (.int .i64 d.st)).setCell ⟨w.heap.size + 1, 8, none⟩ (.int .i64 d.fr)).setCell ⟨w.heap.size + 1, 9, none⟩ (.bool d.sl)) = u := hu.symm
   rw [hu']
   clear hu'
   have ou : Only (w.heap.size + 1) y1 u := by rw [hu]; exact onlyCells _ _ _
   have U : Lay u (w.heap.size + 1) [.int .i64 d.k, .int .i64 d.wn, .int .i64 d.th, .int .i64 d.fl, .int .i64 d.ac, .int .i64 d.la, .int .i64 d.og, .int .i64 d.st, .int .i64 d.fr, .bool d.sl] := by rw [hu]; exact M1.put (p := []) (q := [.int .i64 0, .int .i64 0, .int .i64 0, .int .i64 0, .int .i64 0, .int .i64 0, .int .i64 0, .int .i64 0, .int .i64 0, .bool false]) (r := []) [.int .i64 d.k, .int .i64 d.wn, .int .i64 d.th, .int .i64 d.fl, .int .i64 d.ac, .int .i64 d.la, .int .i64 d.og, .int .i64 d.st, .int .i64 d.fr, .bool d.sl] rfl
   clear hu
   have bw : Below w.heap.size w y1 := below_two nb hby
   refine bodyPost_ret (results_one rfl _ _ _ [.int .i64 d.k, .int .i64 d.wn, .int .i64 d.th, .int .i64 d.fl, .int .i64 d.ac, .int .i64 d.la, .int .i64 d.og, .int .i64 d.st, .int .i64 d.fr, .bool d.sl] rfl U.cell Tryz.underlying62 rfl (by kernel_rfl)) rfl ?_
   exact ⟨rfl, bw.trans (ou.below (by omega) bw.size)⟩
set_option maxHeartbeats 8000000 in
theorem fly_bad_false {w : World} (now nx : Int) {aT aO aP aL aK : Option Addr} (cT cO cP cL cK : Nat) {T O P : List Q4} {L : List F8} {K : List Kn} (id n : Int) (hT : Quad w.heap.size w aT T) (hO : Quad w.heap.size w aO O) (hP : Quad w.heap.size w aP P) (hL : Fls w.heap.size w aL L) (hK : Kls w.heap.size w aK K) (mL : L.length ≤ 1048576) (sL : ∀ f ∈ L, f.2.2.length ≤ 1048576) (mK : K.length ≤ 1048576) (sK : ∀ c ∈ K, c.xs.length ≤ 1048576) (h1 : engB now nx T O P L K = false) : Calls Tryz.prog 55 #[engV now aT T.length cT aO O.length cO aP P.length cP aL L.length cL aK K.length cK nx, .int .i64 id, .int .i64 n, .bool false] w (EgPost w 0 0 [] [] [] [] [] (.int .i64 1)) := by
 obtain ⟨v, hv, nb, L0, L1⟩ := pre2 w 38 [.int .i64 now, .slice aT T.length cT, .slice aO O.length cO, .slice aP P.length cP, .slice aL L.length cL, .slice aK K.length cK, .int .i64 nx] [.int .i64 0, .slice none 0 0, .slice none 0 0, .slice none 0 0, .slice none 0 0, .slice none 0 0, .int .i64 0]
 have hw1 := L1.lt
 go_enter Tryz.func55, Tryz.ntmps55
 go_upto_region 1 with (fail)
 rw [← hv]
 clear hv
 obtain ⟨q0, q1, q2, q3, q4, q5, q6⟩ := Lay.c7 (b := w.heap.size) L0
 go_upto_region 2 with (first | (go_at_call 59; refine (copiedWith_bad now nx cT cO cP cL cK id (hT.here nb) (hO.here nb) (hP.here nb) (hL.here nb) (hK.here nb) mL sL mK sK h1).mono ?_; rintro e u1 ⟨bT, dT, bO, dO, bP, dP, bL, dL, bK, dK, rfl, eg, hb1⟩; have HEG : Hid (Eng u1 v.heap.size u1.heap.size (.slice bT 0 dT) (.slice bO 0 dO) (.slice bP 0 dP) (.slice bL 0 dL) (.slice bK 0 dK) [] [] [] [] []) := eg))
 obtain ⟨x, hx⟩ : ∃ x, x = u1.alloc (.cells #[.int .i64 0, .slice bT 0 dT, .slice bO 0 dO, .slice bP 0 dP, .slice bL 0 dL, .slice bK 0 dK, .int .i64 0] 38) := ⟨_, rfl⟩
 rw [← hx]
 have LX : Lay x u1.heap.size [.int .i64 0, .slice bT 0 dT, .slice bO 0 dO, .slice bP 0 dP, .slice bL 0 dL, .slice bK 0 dK, .int .i64 0] := by rw [hx]; exact lay_new [.int .i64 0, .slice bT 0 dT, .slice bO 0 dO, .slice bP 0 dP, .slice bL 0 dL, .slice bK 0 dK, .int .i64 0] _ rfl
 have bx : Below u1.heap.size u1 x := by rw [hx]; exact new_below _ _
 clear hx q0 q1 q2 q3 q4 q5 q6
 have X1 := (L1.next hb1).next bx
 have z1 := hb1.size
 have zx := bx.size
 have zb := nb.size
 have hlx := LX.lt
 obtain ⟨j0, j1, j2, j3, j4, j5, j6⟩ := Lay.c7 (b := u1.heap.size) LX
 obtain ⟨d0, d1, d2, d3, d4, d5, d6⟩ := Lay.c7 (b := w.heap.size + 1) X1
 have df := X1.free
 go_wp2
 obtain ⟨u, hu', ou, U⟩ := st7 (b := w.heap.size + 1) X1 (.int .i64 0) (.slice bT 0 dT) (.slice bO 0 dO) (.slice bP 0 dP) (.slice bL 0 dL) (.slice bK 0 dK) (.int .i64 0)
 rw [hu']
 clear hu'
 have zu := ou.size
 refine bodyPost_ret (results_two rfl _ _ _ [.int .i64 0, .slice bT 0 dT, .slice bO 0 dO, .slice bP 0 dP, .slice bL 0 dL, .slice bK 0 dK, .int .i64 0] rfl U.cell Tryz.underlying38 rfl (by kernel_rfl)) rfl ?_
 have bw : Below w.heap.size w x := below_two (below_two nb hb1) bx
 have zbw := bw.size
 exact ⟨bT, dT, bO, dO, bP, dP, bL, dL, bK, dK, rfl, engO (HEG.out.next bx) ou (by omega) (by omega) (by omega), bw.trans (ou.below (by omega) bw.size)⟩
set_option maxHeartbeats 8000000 in
theorem fly_id_false {w : World} (now nx : Int) {aT aO aP aL aK : Option Addr} (cT cO cP cL cK : Nat) {T O P : List Q4} {L : List F8} {K : List Kn} (id n : Int) (hT : Quad w.heap.size w aT T) (hO : Quad w.heap.size w aO O) (hP : Quad w.heap.size w aP P) (hL : Fls w.heap.size w aL L) (hK : Kls w.heap.size w aK K) (mL : L.length ≤ 1048576) (sL : ∀ f ∈ L, f.2.2.length ≤ 1048576) (mK : K.length ≤ 1048576) (sK : ∀ c ∈ K, c.xs.length ≤ 1048576) (h1 : engB now nx T O P L K = true) (hf : fK K id = -1) : Calls Tryz.prog 55 #[engV now aT T.length cT aO O.length cO aP P.length cP aL L.length cL aK K.length cK nx, .int .i64 id, .int .i64 n, .bool false] w (EgPost w now nx T O P L K (.int .i64 2)) := by
 obtain ⟨v, hv, nb, L0, L1⟩ := pre2 w 38 [.int .i64 now, .slice aT T.length cT, .slice aO O.length cO, .slice aP P.length cP, .slice aL L.length cL, .slice aK K.length cK, .int .i64 nx] [.int .i64 0, .slice none 0 0, .slice none 0 0, .slice none 0 0, .slice none 0 0, .slice none 0 0, .int .i64 0]
 have hw1 := L1.lt
 go_enter Tryz.func55, Tryz.ntmps55
 go_upto_region 1 with (fail)
 rw [← hv]
 clear hv
 obtain ⟨q0, q1, q2, q3, q4, q5, q6⟩ := Lay.c7 (b := w.heap.size) L0
 go_upto_region 2 with (first | (go_at_call 59; refine (copiedWith_id now nx cT cO cP cL cK id (hT.here nb) (hO.here nb) (hP.here nb) (hL.here nb) (hK.here nb) mL sL mK sK h1 hf).mono ?_; rintro e u1 ⟨bT, dT, bO, dO, bP, dP, bL, dL, bK, dK, rfl, eg, hb1⟩; have HEG : Hid (Eng u1 v.heap.size u1.heap.size (.slice bT T.length dT) (.slice bO O.length dO) (.slice bP P.length dP) (.slice bL L.length dL) (.slice bK K.length dK) T O P L K) := eg))
 obtain ⟨x, hx⟩ : ∃ x, x = u1.alloc (.cells #[.int .i64 now, .slice bT T.length dT, .slice bO O.length dO, .slice bP P.length dP, .slice bL L.length dL, .slice bK K.length dK, .int .i64 nx] 38) := ⟨_, rfl⟩
 rw [← hx]
 have LX : Lay x u1.heap.size [.int .i64 now, .slice bT T.length dT, .slice bO O.length dO, .slice bP P.length dP, .slice bL L.length dL, .slice bK K.length dK, .int .i64 nx] := by rw [hx]; exact lay_new [.int .i64 now, .slice bT T.length dT, .slice bO O.length dO, .slice bP P.length dP, .slice bL L.length dL, .slice bK K.length dK, .int .i64 nx] _ rfl
 have bx : Below u1.heap.size u1 x := by rw [hx]; exact new_below _ _
 clear hx q0 q1 q2 q3 q4 q5 q6
 have X1 := (L1.next hb1).next bx
 have z1 := hb1.size
 have zx := bx.size
 have zb := nb.size
 have hlx := LX.lt
 obtain ⟨j0, j1, j2, j3, j4, j5, j6⟩ := Lay.c7 (b := u1.heap.size) LX
 obtain ⟨d0, d1, d2, d3, d4, d5, d6⟩ := Lay.c7 (b := w.heap.size + 1) X1
 have df := X1.free
 go_wp2
 obtain ⟨u, hu', ou, U⟩ := st7 (b := w.heap.size + 1) X1 (.int .i64 now) (.slice bT T.length dT) (.slice bO O.length dO) (.slice bP P.length dP) (.slice bL L.length dL) (.slice bK K.length dK) (.int .i64 nx)
 rw [hu']
 clear hu'
 have zu := ou.size
 refine bodyPost_ret (results_two rfl _ _ _ [.int .i64 now, .slice bT T.length dT, .slice bO O.length dO, .slice bP P.length dP, .slice bL L.length dL, .slice bK K.length dK, .int .i64 nx] rfl U.cell Tryz.underlying38 rfl (by kernel_rfl)) rfl ?_
 have bw : Below w.heap.size w x := below_two (below_two nb hb1) bx
 have zbw := bw.size
 exact ⟨bT, dT, bO, dO, bP, dP, bL, dL, bK, dK, rfl, engO (HEG.out.next bx) ou (by omega) (by omega) (by omega), bw.trans (ou.below (by omega) bw.size)⟩
set_option maxHeartbeats 8000000 in
theorem fly_size_false {w : World} (now nx : Int) {aT aO aP aL aK : Option Addr} (cT cO cP cL cK : Nat) {T O P : List Q4} {L : List F8} {K : List Kn} (id n : Int) (hT : Quad w.heap.size w aT T) (hO : Quad w.heap.size w aO O) (hP : Quad w.heap.size w aP P) (hL : Fls w.heap.size w aL L) (hK : Kls w.heap.size w aK K) (mL : L.length ≤ 1048576) (sL : ∀ f ∈ L, f.2.2.length ≤ 1048576) (mK : K.length ≤ 1048576) (sK : ∀ c ∈ K, c.xs.length ≤ 1048576) (h1 : engB now nx T O P L K = true) (i : Nat) (hi : i < K.length) (hf : fK K id = (i : Int)) (hg : inQ 1 n K[i].fl = false) : Calls Tryz.prog 55 #[engV now aT T.length cT aO O.length cO aP P.length cP aL L.length cL aK K.length cK nx, .int .i64 id, .int .i64 n, .bool false] w (EgPost w now nx T O P L K (.int .i64 7)) := by
 have l0 := (eg_yes h1).l0
 have hi' : (i : Int) < (K.length : Int) := by omega
 have hi0 : (0 : Int) ≤ (i : Int) := by omega
 obtain ⟨v, hv, nb, L0, L1⟩ := pre2 w 38 [.int .i64 now, .slice aT T.length cT, .slice aO O.length cO, .slice aP P.length cP, .slice aL L.length cL, .slice aK K.length cK, .int .i64 nx] [.int .i64 0, .slice none 0 0, .slice none 0 0, .slice none 0 0, .slice none 0 0, .slice none 0 0, .int .i64 0]
 have hw1 := L1.lt
 go_enter Tryz.func55, Tryz.ntmps55
 go_upto_region 1 with (fail)
 rw [← hv]
 clear hv
 obtain ⟨q0, q1, q2, q3, q4, q5, q6⟩ := Lay.c7 (b := w.heap.size) L0
 go_upto_region 2 with (first | (go_at_call 59; refine (copiedWith_go now nx cT cO cP cL cK id (hT.here nb) (hO.here nb) (hP.here nb) (hL.here nb) (hK.here nb) mL sL mK sK h1 i hi hf).mono ?_; rintro e u1 ⟨bT, dT, bO, dO, bP, dP, bL, dL, bK, dK, GK, lh, ph, rfl, lv, lb, tv, ck, hz, hb1⟩))
 obtain ⟨uL, uK, eo⟩ := cp_own lv lb tv ck hz
 obtain ⟨gl, hgl, hgl0, hgl1, hgl2⟩ := eo.atL (by omega)
 obtain ⟨gk, hgk, hgk0, hgk1, hgk2⟩ := eo.atK (by omega)
 subst hgl hgk
 have HE : Hid (EOwn u1 v.heap.size u1.heap.size (.slice bT T.length dT) (.slice bO O.length dO) (.slice bP P.length dP) (.slice (some ⟨gl, 0, none⟩) L.length dL) uL (.slice (some ⟨gk, 0, none⟩) K.length dK) uK T O P L K) := eo
 clear eo lv lb tv ck
 obtain ⟨x, hx⟩ : ∃ x, x = u1.alloc (.cells #[.int .i64 now, .slice bT T.length dT, .slice bO O.length dO, .slice bP P.length dP, .slice (some ⟨gl, 0, none⟩) L.length dL, .slice (some ⟨gk, 0, none⟩) K.length dK, .int .i64 nx] 38) := ⟨_, rfl⟩
 rw [← hx]
 have LX : Lay x u1.heap.size [.int .i64 now, .slice bT T.length dT, .slice bO O.length dO, .slice bP P.length dP, .slice (some ⟨gl, 0, none⟩) L.length dL, .slice (some ⟨gk, 0, none⟩) K.length dK, .int .i64 nx] := by rw [hx]; exact lay_new [.int .i64 now, .slice bT T.length dT, .slice bO O.length dO, .slice bP P.length dP, .slice (some ⟨gl, 0, none⟩) L.length dL, .slice (some ⟨gk, 0, none⟩) K.length dK, .int .i64 nx] _ rfl
 have bx : Below u1.heap.size u1 x := by rw [hx]; exact new_below _ _
 clear hx q0 q1 q2 q3 q4 q5 q6
 have X1 := (L1.next hb1).next bx
 have z1 := hb1.size
 have zx := bx.size
 have zb := nb.size
 have hlx := LX.lt
 obtain ⟨k0, k1, k2, k3, k4, k5, k6, k7, k8, k9, k10, k11, k12⟩ := (HE.out.next bx).con hi
 obtain ⟨j0, j1, j2, j3, j4, j5, j6⟩ := Lay.c7 (b := u1.heap.size) LX
 obtain ⟨d0, d1, d2, d3, d4, d5, d6⟩ := Lay.c7 (b := w.heap.size + 1) X1
 have df := X1.free
 go_wp2_with (first | (go_at_call 77; refine (iQ_is hg _).mono ?_; rintro e w3 ⟨rfl, e3⟩; replace e3 := e3.symm; subst e3))
 obtain ⟨u, hu', ou, U⟩ := st7 (b := w.heap.size + 1) X1 (.int .i64 now) (.slice bT T.length dT) (.slice bO O.length dO) (.slice bP P.length dP) (.slice (some ⟨gl, 0, none⟩) L.length dL) (.slice (some ⟨gk, 0, none⟩) K.length dK) (.int .i64 nx)
 rw [hu']
 clear hu'
 have zu := ou.size
 refine bodyPost_ret (results_two rfl _ _ _ [.int .i64 now, .slice bT T.length dT, .slice bO O.length dO, .slice bP P.length dP, .slice (some ⟨gl, 0, none⟩) L.length dL, .slice (some ⟨gk, 0, none⟩) K.length dK, .int .i64 nx] rfl U.cell Tryz.underlying38 rfl (by kernel_rfl)) rfl ?_
 have bw : Below w.heap.size w x := below_two (below_two nb hb1) bx
 have ex := HE.out.next bx
 have hnn : ¬ inE (.slice bT T.length dT) (.slice bO O.length dO) (.slice bP P.length dP) (.slice (some ⟨gl, 0, none⟩) L.length dL) uL (.slice (some ⟨gk, 0, none⟩) K.length dK) uK (w.heap.size + 1) := fun hb => by have := ex.bd hb; omega
 exact ⟨bT, dT, bO, dO, bP, dP, some ⟨gl, 0, none⟩, dL, some ⟨gk, 0, none⟩, dK, rfl, (ex.only ou hnn).eng.wider (by omega) (by omega), bw.trans (ou.below (by omega) bw.size)⟩
set_option maxHeartbeats 8000000 in
theorem fly_go_false {w : World} (now nx : Int) {aT aO aP aL aK : Option Addr} (cT cO cP cL cK : Nat) {T O P : List Q4} {L : List F8} {K : List Kn} (id n : Int) (hT : Quad w.heap.size w aT T) (hO : Quad w.heap.size w aO O) (hP : Quad w.heap.size w aP P) (hL : Fls w.heap.size w aL L) (hK : Kls w.heap.size w aK K) (mL : L.length ≤ 1048576) (sL : ∀ f ∈ L, f.2.2.length ≤ 1048576) (mK : K.length ≤ 1048576) (sK : ∀ c ∈ K, c.xs.length ≤ 1048576) (h1 : engB now nx T O P L K = true) (i : Nat) (hi : i < K.length) (hf : fK K id = (i : Int)) (hg : inQ 1 n K[i].fl = true) (p : Nat) (hpl : K[i].pl = (p : Int)) (hp : p < L.length) : Calls Tryz.prog 55 #[engV now aT T.length cT aO O.length cO aP P.length cP aL L.length cL aK K.length cK nx, .int .i64 id, .int .i64 n, .bool false] w (EgPost w now nx T O P (L.set p (flyP L p n false)) (K.set i (K[i].cc (flyD K[i] n now false))) (.int .i64 0)) := by
 have l0 := (eg_yes h1).l0
 have hi' : (i : Int) < (K.length : Int) := by omega
 have hi0 : (0 : Int) ≤ (i : Int) := by omega
 obtain ⟨hn9, hnn1, hff⟩ := fly_n (eg_yes h1) hi hg
 have hpb := ((eg_yes h1).pl p hp).1
 obtain ⟨d, hd⟩ : ∃ d, flyD K[i] n now false = d := ⟨_, rfl⟩
 have HD : Hid (flyD K[i] n now false = d) := hd
 rw [flyP_at hp n false, hd]
 have HPB : Hid (plB L[p].1 L[p].2.1 L[p].2.2 = true) := hpb
 have HNB : Hid (inQ 1 n 1000000000 = true) := hn9
 have HPL : Hid (K[i].pl = (p : Int)) := hpl
 have hp' : (p : Int) < (L.length : Int) := by omega
 have hp0 : (0 : Int) ≤ (p : Int) := by omega
 clear hpb hn9 hd hpl
 obtain ⟨v, hv, nb, L0, L1⟩ := pre2 w 38 [.int .i64 now, .slice aT T.length cT, .slice aO O.length cO, .slice aP P.length cP, .slice aL L.length cL, .slice aK K.length cK, .int .i64 nx] [.int .i64 0, .slice none 0 0, .slice none 0 0, .slice none 0 0, .slice none 0 0, .slice none 0 0, .int .i64 0]
 have hw1 := L1.lt
 go_enter Tryz.func55, Tryz.ntmps55
 go_upto_region 1 with (fail)
 rw [← hv]
 clear hv
 obtain ⟨q0, q1, q2, q3, q4, q5, q6⟩ := Lay.c7 (b := w.heap.size) L0
 go_upto_region 2 with (first | (go_at_call 59; refine (copiedWith_go now nx cT cO cP cL cK id (hT.here nb) (hO.here nb) (hP.here nb) (hL.here nb) (hK.here nb) mL sL mK sK h1 i hi hf).mono ?_; rintro e u1 ⟨bT, dT, bO, dO, bP, dP, bL, dL, bK, dK, GK, lh, ph, rfl, lv, lb, tv, ck, hz, hb1⟩))
 obtain ⟨uL, uK, eo⟩ := cp_own lv lb tv ck hz
 obtain ⟨gl, hgl, hgl0, hgl1, hgl2⟩ := eo.atL (by omega)
 obtain ⟨gk, hgk, hgk0, hgk1, hgk2⟩ := eo.atK (by omega)
 subst hgl hgk
 have HE : Hid (EOwn u1 v.heap.size u1.heap.size (.slice bT T.length dT) (.slice bO O.length dO) (.slice bP P.length dP) (.slice (some ⟨gl, 0, none⟩) L.length dL) uL (.slice (some ⟨gk, 0, none⟩) K.length dK) uK T O P L K) := eo
 clear eo lv lb tv ck
 obtain ⟨x, hx⟩ : ∃ x, x = u1.alloc (.cells #[.int .i64 now, .slice bT T.length dT, .slice bO O.length dO, .slice bP P.length dP, .slice (some ⟨gl, 0, none⟩) L.length dL, .slice (some ⟨gk, 0, none⟩) K.length dK, .int .i64 nx] 38) := ⟨_, rfl⟩
 rw [← hx]
 have LX : Lay x u1.heap.size [.int .i64 now, .slice bT T.length dT, .slice bO O.length dO, .slice bP P.length dP, .slice (some ⟨gl, 0, none⟩) L.length dL, .slice (some ⟨gk, 0, none⟩) K.length dK, .int .i64 nx] := by rw [hx]; exact lay_new [.int .i64 now, .slice bT T.length dT, .slice bO O.length dO, .slice bP P.length dP, .slice (some ⟨gl, 0, none⟩) L.length dL, .slice (some ⟨gk, 0, none⟩) K.length dK, .int .i64 nx] _ rfl
 have bx : Below u1.heap.size u1 x := by rw [hx]; exact new_below _ _
 clear hx q0 q1 q2 q3 q4 q5 q6
 have X1 := (L1.next hb1).next bx
 have z1 := hb1.size
 have zx := bx.size
 have zb := nb.size
 have hlx := LX.lt
 obtain ⟨k0, k1, k2, k3, k4, k5, k6, k7, k8, k9, k10, k11, k12⟩ := (HE.out.next bx).con hi
 obtain ⟨j0, j1, j2, j3, j4, j5, j6⟩ := LX.c7
 go_upto_region 9 with (first | (go_at_call 77; refine (iQ_is hg _).mono ?_; rintro e w3 ⟨rfl, e3⟩; replace e3 := e3.symm; subst e3))
 clear j0 j1 j2 j3 j4 j5 j6 k0 k1 k2 k3 k4 k5 k6 k7 k8 k9 k10 k11 k12
 have HS8 : Hid (∀ u, Below x.heap.size x u → u.cell? ⟨gk, i * 14 + 3, none⟩ = some (.int .i64 K[i].k) ∧ u.cell? ⟨gk, i * 14 + 4, none⟩ = some (.int .i64 K[i].wn) ∧ u.cell? ⟨gk, i * 14 + 5, none⟩ = some (.int .i64 K[i].th) ∧ u.cell? ⟨gk, i * 14 + 6, none⟩ = some (.int .i64 K[i].fl) ∧ u.cell? ⟨gk, i * 14 + 7, none⟩ = some (.int .i64 K[i].ac) ∧ u.cell? ⟨gk, i * 14 + 8, none⟩ = some (.int .i64 K[i].la) ∧ u.cell? ⟨gk, i * 14 + 9, none⟩ = some (.int .i64 K[i].og) ∧ u.cell? ⟨gk, i * 14 + 10, none⟩ = some (.int .i64 K[i].st) ∧ u.cell? ⟨gk, i * 14 + 11, none⟩ = some (.int .i64 K[i].fr) ∧ u.cell? ⟨gk, i * 14 + 12, none⟩ = some (.bool K[i].sl) ∧ u.cell? ⟨u1.heap.size, 0, none⟩ = some (.int .i64 now)) := fun u hu => by
   obtain ⟨k0, k1, k2, k3, k4, k5, k6, k7, k8, k9, k10, k11, k12⟩ := (HE.out.next (below_two bx hu)).con hi
   exact ⟨k3, k4, k5, k6, k7, k8, k9, k10, k11, k12, (LX.next hu).cell 0 _ rfl⟩
 refine region_late (S := fun w' => w'.cell? ⟨gk, i * 14 + 3, none⟩ = some (.int .i64 K[i].k) ∧ w'.cell? ⟨gk, i * 14 + 4, none⟩ = some (.int .i64 K[i].wn) ∧ w'.cell? ⟨gk, i * 14 + 5, none⟩ = some (.int .i64 K[i].th) ∧ w'.cell? ⟨gk, i * 14 + 6, none⟩ = some (.int .i64 K[i].fl) ∧ w'.cell? ⟨gk, i * 14 + 7, none⟩ = some (.int .i64 K[i].ac) ∧ w'.cell? ⟨gk, i * 14 + 8, none⟩ = some (.int .i64 K[i].la) ∧ w'.cell? ⟨gk, i * 14 + 9, none⟩ = some (.int .i64 K[i].og) ∧ w'.cell? ⟨gk, i * 14 + 10, none⟩ = some (.int .i64 K[i].st) ∧ w'.cell? ⟨gk, i * 14 + 11, none⟩ = some (.int .i64 K[i].fr) ∧ w'.cell? ⟨gk, i * 14 + 12, none⟩ = some (.bool K[i].sl) ∧ w'.cell? ⟨u1.heap.size, 0, none⟩ = some (.int .i64 now)) 11 (by kernel_rfl) (HS8.out _ (Below.refl _ _).drew) (fun hS => ?_)
 refine lateR 0 rfl ?_
 refine lateR 1 rfl ?_
 refine lateR 2 rfl ?_
 refine lateR 3 rfl ?_
 refine lateR 4 rfl ?_
 refine lateR 5 rfl ?_
 refine lateR 6 rfl ?_
 refine lateR 7 rfl ?_
 refine late_one (i := 8) (by kernel_rfl) rfl (fun Kr hKr => ?_)
 go_simp
 (refine (ackedBy_any _ _ _ _ _ _ _ _ _ _ _ _ _).mono ?_; rintro e u6 ⟨rfl, b6⟩; rw [show ackD K[i].k K[i].wn K[i].th K[i].fl K[i].ac K[i].la K[i].og K[i].st K[i].fr K[i].sl n now = d from HD.out]; have b6 := undrewE b6; have hS6 := HS8.out _ b6; have HEZ : Hid (EOwn u6 v.heap.size u1.heap.size (.slice bT T.length dT) (.slice bO O.length dO) (.slice bP P.length dP) (.slice (some ⟨gl, 0, none⟩) L.length dL) uL (.slice (some ⟨gk, 0, none⟩) K.length dK) uK T O P L K) := HE.out.next (below_two bx b6); obtain ⟨k0, k1, k2, k3, k4, k5, k6, k7, k8, k9, k10, k11, k12⟩ := (HEZ.out).con hi; obtain ⟨f3, f4, f5, f6, f7, f8, f9, f10, f11, f12, f13⟩ := HEZ.out.frz hi)
 refine hKr.out _ _ ‹_› fun _ => ?_
 try simp only [nrm]
 refine late_one (i := 9) (by kernel_rfl) rfl (fun Kr hKr => ?_)
 go_simp
 refine hKr.out _ _ ‹_› fun _ => ?_
 try simp only [nrm]
 refine late_one (i := 10) (by kernel_rfl) rfl (fun Kr hKr => ?_)
 go_simp
 refine hKr.out _ _ ‹_› fun _ => ?_
 try simp only [nrm]
 refine late_last (by kernel_rfl) rfl (by kernel_rfl) (fun Kr hKr => ?_)
 go_simp
 refine hKr.out _ _ ?_
 try simp only [nrm]
 obtain ⟨y, hyy⟩ : ∃ z, z = u6.setCells gk (i * 14 + 3) (K[i].cc d).ccs := ⟨_, rfl⟩
 have hy' : ((((((((((u6.setCell ⟨gk, i * 14 + 3, none⟩ (.int .i64 d.k)).setCell ⟨gk, i * 14 + 4, none⟩ (.int .i64 d.wn)).setCell ⟨gk, i * 14 + 5, none⟩ (.int .i64 d.th)).setCell ⟨gk, i * 14 + 6, none⟩ (.int .i64 d.fl)).setCell ⟨gk, i * 14 + 7, none⟩ (.int .i64 d.ac)).setCell ⟨gk, i * 14 + 8, none⟩ (.int .i64 d.la)).setCell ⟨gk, i * 14 + 9, none⟩ (.int .i64 d.og)).setCell ⟨gk, i * 14 + 10, none⟩ (.int .i64 d.st)).setCell ⟨gk, i * 14 + 11, none⟩ (.int .i64 d.fr)).setCell ⟨gk, i * 14 + 12, none⟩ (.bool d.sl)) = y := hyy.symm
 rw [hy']
 clear hy'
 have oy : Only gk u6 y := by rw [hyy]; exact onlyCells _ _ _
 have ey0 := HEZ.out.setCc hi (K[i].cc d) rfl rfl rfl rfl
 rw [← hyy] at ey0
 have EY : Hid (EOwn y v.heap.size u1.heap.size (.slice bT T.length dT) (.slice bO O.length dO) (.slice bP P.length dP) (.slice (some ⟨gl, 0, none⟩) L.length dL) uL (.slice (some ⟨gk, 0, none⟩) (K.set i (K[i].cc d)).length dK) uK T O P L (K.set i (K[i].cc d))) := ey0
 have k2y : y.cell? ⟨gk, i * 14 + 2, none⟩ = some (.int .i64 (p : Int)) := by
   rw [hyy]
   refine (World.cell?_setCells_out gk _ _ u6 ⟨gk, i * 14 + 2, none⟩ (fun _ _ => .inl (by show i * 14 + 2 < i * 14 + 3; omega))).trans ?_
   rw [← HPL.out]
   exact k2
 clear hyy ey0 k0 k1 k2 k3 k4 k5 k6 k7 k8 k9 k10 k11 k12 f3 f4 f5 f6 f7 f8 f9 f10 f11 f12 f13
 have zoy := oy.size
 have z6 := b6.size
 have LY := (LX.next b6).only oy (by omega)
 have XY := (X1.next b6).only oy (by omega)
 have bux := below_two bx b6
 have zbux := bux.size
 have bwy : Below w.heap.size w y := ((below_two nb hb1).trans (bux.mono (by omega))).trans (oy.below (by omega) (by omega))
 go_upto_region 10 with (fail)
 obtain ⟨q0, q1, qf, sa, sc, q2, qu, qsm⟩ := EY.out.plc hp
 have HSM : Hid (ISmp y.heap.size y sa L[p].2.2) := qsm
 have HS : Hid (∀ u, Below y.heap.size y u → u.cell? ⟨u1.heap.size, 4, none⟩ = some (.slice (some ⟨gl, 0, none⟩) L.length dL) ∧ u.cell? ⟨gk, i * 14 + 2, none⟩ = some (.int .i64 (p : Int)) ∧ u.cell? ⟨gl, p * 3, none⟩ = some (.int .i64 L[p].1) ∧ u.cell? ⟨gl, p * 3 + 1, none⟩ = some (.int .i64 L[p].2.1) ∧ u.cell? ⟨gl, p * 3 + 2, none⟩ = some (.slice sa L[p].2.2.length sc)) := fun u hu => ⟨(LY.next hu).cell 4 _ rfl, (hu.cell (by show gk < _; omega)).trans k2y, (hu.cell (by show gl < _; omega)).trans q0, (hu.cell (by show gl < _; omega)).trans q1, (hu.cell (by show gl < _; omega)).trans q2⟩
 clear q0 q1 q2 qf qu qsm k2y
 refine region_late (S := fun w' => w'.cell? ⟨u1.heap.size, 4, none⟩ = some (.slice (some ⟨gl, 0, none⟩) L.length dL) ∧ w'.cell? ⟨gk, i * 14 + 2, none⟩ = some (.int .i64 (p : Int)) ∧ w'.cell? ⟨gl, p * 3, none⟩ = some (.int .i64 L[p].1) ∧ w'.cell? ⟨gl, p * 3 + 1, none⟩ = some (.int .i64 L[p].2.1) ∧ w'.cell? ⟨gl, p * 3 + 2, none⟩ = some (.slice sa L[p].2.2.length sc)) 18 (by kernel_rfl) (HS.out _ (Below.refl _ _).drew) (fun hS => ?_)
 refine lateR 0 rfl ?_
 refine lateR 1 rfl ?_
 refine lateR 2 rfl ?_
 refine lateR 3 rfl ?_
 refine lateR 4 rfl ?_
 refine lateR 5 rfl ?_
 refine lateR 6 rfl ?_
 refine lateR 7 rfl ?_
 refine lateR 8 rfl ?_
 refine lateR 9 rfl ?_
 refine lateR 10 rfl ?_
 refine lateR 11 rfl ?_
 refine lateR 12 rfl ?_
 refine lateR 13 rfl ?_
 refine lateR 14 rfl ?_
 refine lateR 15 rfl ?_
 refine late_one (i := 16) (by kernel_rfl) rfl (fun Kr hKr => ?_)
 go_simp
 (refine (implFree_yes sc HPB.out HNB.out (HSM.out.here (Below.refl _ _).drew)).mono ?_; rintro e u5 ⟨va, nv, cv, rfl, iv5, hb5⟩; have nz := iv_lenC iv5; subst nz; have iv5 : IV u5 y.heap.size (.slice va L[p].2.2.length cv) L[p].2.2 := iv5; have hb5 := undrewE hb5; have hS5 := HS.out _ hb5; have HE5 : Hid (EOwn u5 v.heap.size u1.heap.size (.slice bT T.length dT) (.slice bO O.length dO) (.slice bP P.length dP) (.slice (some ⟨gl, 0, none⟩) L.length dL) uL (.slice (some ⟨gk, 0, none⟩) (K.set i (K[i].cc d)).length dK) uK T O P L (K.set i (K[i].cc d))) := EY.out.next hb5; obtain ⟨p0, p1, ⟨pf0, pf1, pf2⟩, sb, sd, p2, pu, psm⟩ := HE5.out.plc hp)
 refine hKr.out _ _ ‹_› fun _ => ?_
 try simp only [nrm]
 refine late_one (i := 17) (by kernel_rfl) rfl (fun Kr hKr => ?_)
 go_simp
 refine hKr.out _ _ ‹_› fun _ => ?_
 try simp only [nrm]
 refine late_last (by kernel_rfl) rfl (by kernel_rfl) (fun Kr hKr => ?_)
 go_simp
 refine hKr.out _ _ ?_
 try simp only [nrm]
 obtain ⟨z, hzz⟩ : ∃ z, z = u5.setCells gl (p * 3) [.int .i64 (freeW L[p].1 n false), .int .i64 (max 0 (L[p].2.1 - n)), .slice va L[p].2.2.length cv] := ⟨_, rfl⟩
 have hz' : ((u5.setCell ⟨gl, p * 3, none⟩ (.int .i64 (freeW L[p].1 n false))).setCell ⟨gl, p * 3 + 1, none⟩ (.int .i64 (max 0 (L[p].2.1 - n)))).setCell ⟨gl, p * 3 + 2, none⟩ (.slice va L[p].2.2.length cv) = z := hzz.symm
 rw [hz']
 clear hz' p0 p1 pf0 pf1 pf2 p2 pu psm
 have z5 := hb5.size
 have ez := HE5.out.setP (hi' := u5.heap.size) (q := freeW L[p].1 n false) (d := max 0 (L[p].2.1 - n)) hp (iv5.io.wider (by omega) (Nat.le_refl _)) (fun b hb => .inr (fun hn => by have := (iv5.io.el hb).1; have := HE5.out.bd hn; omega)) (by omega) (Nat.le_refl _)
 rw [← hzz] at ez
 have oz : Only gl u5 z := by rw [hzz]; exact onlyCells _ _ _
 clear hzz
 have LZ := (LY.next hb5).only oz (by omega)
 have XZ := (XY.next hb5).only oz (by omega)
 have zoz := oz.size
 obtain ⟨j0, j1, j2, j3, j4, j5, j6⟩ := LZ.c7
 obtain ⟨r0, r1, r2, r3, r4, r5, r6⟩ := XZ.c7
 have rf := XZ.free
 go_wp2
 obtain ⟨u, hu', ou, U⟩ := st7 (b := w.heap.size + 1) XZ (.int .i64 now) (.slice bT T.length dT) (.slice bO O.length dO) (.slice bP P.length dP) (.slice (some ⟨gl, 0, none⟩) L.length dL) (.slice (some ⟨gk, 0, none⟩) K.length dK) (.int .i64 nx)
 rw [hu']
 clear hu'
 have bwz : Below w.heap.size w z := (bwy.trans (hb5.mono (by omega))).trans (oz.below (by omega) (by omega))
 have hnn : ¬ inE (.slice bT T.length dT) (.slice bO O.length dO) (.slice bP P.length dP) (.slice (some ⟨gl, 0, none⟩) (L.set p (freeW L[p].1 n false, max 0 (L[p].2.1 - n), L[p].2.2)).length dL) (uL.set p (.slice va L[p].2.2.length cv)) (.slice (some ⟨gk, 0, none⟩) (K.set i (K[i].cc d)).length dK) uK (w.heap.size + 1) := fun hb => by have := ez.bd hb; omega
 have eu := ez.only ou hnn
 have zu := ou.size
 refine bodyPost_ret (results_two rfl _ _ _ [.int .i64 now, .slice bT T.length dT, .slice bO O.length dO, .slice bP P.length dP, .slice (some ⟨gl, 0, none⟩) L.length dL, .slice (some ⟨gk, 0, none⟩) K.length dK, .int .i64 nx] rfl U.cell Tryz.underlying38 rfl (by kernel_rfl)) rfl ?_
 exact ⟨bT, dT, bO, dO, bP, dP, some ⟨gl, 0, none⟩, dL, some ⟨gk, 0, none⟩, dK, by rw [List.length_set, List.length_set]; rfl, eu.eng.wider (by omega) (by omega), bwz.trans (ou.below (by omega) bwz.size)⟩
set_option maxHeartbeats 8000000 in
theorem implAcked_bad {w : World} (now nx : Int) {aT aO aP aL aK : Option Addr} (cT cO cP cL cK : Nat) {T O P : List Q4} {L : List F8} {K : List Kn} (id n : Int) (hT : Quad w.heap.size w aT T) (hO : Quad w.heap.size w aO O) (hP : Quad w.heap.size w aP P) (hL : Fls w.heap.size w aL L) (hK : Kls w.heap.size w aK K) (mL : L.length ≤ 1048576) (sL : ∀ f ∈ L, f.2.2.length ≤ 1048576) (mK : K.length ≤ 1048576) (sK : ∀ c ∈ K, c.xs.length ≤ 1048576) (h1 : engB now nx T O P L K = false) : Calls Tryz.prog 15 #[engV now aT T.length cT aO O.length cO aP P.length cP aL L.length cL aK K.length cK nx, .int .i64 id, .int .i64 n] w (EgPost w 0 0 [] [] [] [] [] (.int .i64 1)) := by
 obtain ⟨v, hv, nb, L0, L1⟩ := pre2 w 38 [.int .i64 now, .slice aT T.length cT, .slice aO O.length cO, .slice aP P.length cP, .slice aL L.length cL, .slice aK K.length cK, .int .i64 nx] [.int .i64 0, .slice none 0 0, .slice none 0 0, .slice none 0 0, .slice none 0 0, .slice none 0 0, .int .i64 0]
 have hw1 := L1.lt
 go_enter Tryz.func15, Tryz.ntmps15
 go_upto_region 1 with (fail)
 rw [← hv]
 clear hv
 obtain ⟨q0, q1, q2, q3, q4, q5, q6⟩ := Lay.c7 (b := w.heap.size) L0
 go_wp2_with (first | (go_at_call 55; refine (fly_bad_false now nx cT cO cP cL cK id n (hT.here nb) (hO.here nb) (hP.here nb) (hL.here nb) (hK.here nb) mL sL mK sK h1).mono ?_; rintro e u1 ⟨bT, dT, bO, dO, bP, dP, bL, dL, bK, dK, rfl, eg, hb1⟩; have HEG : Hid (Eng u1 v.heap.size u1.heap.size (.slice bT 0 dT) (.slice bO 0 dO) (.slice bP 0 dP) (.slice bL 0 dL) (.slice bK 0 dK) [] [] [] [] []) := eg; have LU := L1.next hb1; obtain ⟨z0, z1, z2, z3, z4, z5, z6⟩ := LU.c7; have fz := LU.free))
 obtain ⟨u, hu', ou, U⟩ := st7 (b := w.heap.size + 1) LU (.int .i64 0) (.slice bT 0 dT) (.slice bO 0 dO) (.slice bP 0 dP) (.slice bL 0 dL) (.slice bK 0 dK) (.int .i64 0)
 rw [hu']
 clear hu'
 have zb := nb.size
 have z1 := hb1.size
 have zu := ou.size
 refine bodyPost_ret (results_two rfl _ _ _ [.int .i64 0, .slice bT 0 dT, .slice bO 0 dO, .slice bP 0 dP, .slice bL 0 dL, .slice bK 0 dK, .int .i64 0] rfl U.cell Tryz.underlying38 rfl (by kernel_rfl)) rfl ?_
 have bw := below_two nb hb1
 exact ⟨bT, dT, bO, dO, bP, dP, bL, dL, bK, dK, rfl, engO HEG.out ou (by omega) (by omega) (by omega), bw.trans (ou.below (by omega) bw.size)⟩
set_option maxHeartbeats 8000000 in
theorem implAcked_id {w : World} (now nx : Int) {aT aO aP aL aK : Option Addr} (cT cO cP cL cK : Nat) {T O P : List Q4} {L : List F8} {K : List Kn} (id n : Int) (hT : Quad w.heap.size w aT T) (hO : Quad w.heap.size w aO O) (hP : Quad w.heap.size w aP P) (hL : Fls w.heap.size w aL L) (hK : Kls w.heap.size w aK K) (mL : L.length ≤ 1048576) (sL : ∀ f ∈ L, f.2.2.length ≤ 1048576) (mK : K.length ≤ 1048576) (sK : ∀ c ∈ K, c.xs.length ≤ 1048576) (h1 : engB now nx T O P L K = true) (hf : fK K id = -1) : Calls Tryz.prog 15 #[engV now aT T.length cT aO O.length cO aP P.length cP aL L.length cL aK K.length cK nx, .int .i64 id, .int .i64 n] w (EgPost w now nx T O P L K (.int .i64 2)) := by
 obtain ⟨v, hv, nb, L0, L1⟩ := pre2 w 38 [.int .i64 now, .slice aT T.length cT, .slice aO O.length cO, .slice aP P.length cP, .slice aL L.length cL, .slice aK K.length cK, .int .i64 nx] [.int .i64 0, .slice none 0 0, .slice none 0 0, .slice none 0 0, .slice none 0 0, .slice none 0 0, .int .i64 0]
 have hw1 := L1.lt
 go_enter Tryz.func15, Tryz.ntmps15
 go_upto_region 1 with (fail)
 rw [← hv]
 clear hv
 obtain ⟨q0, q1, q2, q3, q4, q5, q6⟩ := Lay.c7 (b := w.heap.size) L0
 go_wp2_with (first | (go_at_call 55; refine (fly_id_false now nx cT cO cP cL cK id n (hT.here nb) (hO.here nb) (hP.here nb) (hL.here nb) (hK.here nb) mL sL mK sK h1 hf).mono ?_; rintro e u1 ⟨bT, dT, bO, dO, bP, dP, bL, dL, bK, dK, rfl, eg, hb1⟩; have HEG : Hid (Eng u1 v.heap.size u1.heap.size (.slice bT T.length dT) (.slice bO O.length dO) (.slice bP P.length dP) (.slice bL L.length dL) (.slice bK K.length dK) T O P L K) := eg; have LU := L1.next hb1; obtain ⟨z0, z1, z2, z3, z4, z5, z6⟩ := LU.c7; have fz := LU.free))
 obtain ⟨u, hu', ou, U⟩ := st7 (b := w.heap.size + 1) LU (.int .i64 now) (.slice bT T.length dT) (.slice bO O.length dO) (.slice bP P.length dP) (.slice bL L.length dL) (.slice bK K.length dK) (.int .i64 nx)
 rw [hu']
 clear hu'
 have zb := nb.size
 have z1 := hb1.size
 have zu := ou.size
 refine bodyPost_ret (results_two rfl _ _ _ [.int .i64 now, .slice bT T.length dT, .slice bO O.length dO, .slice bP P.length dP, .slice bL L.length dL, .slice bK K.length dK, .int .i64 nx] rfl U.cell Tryz.underlying38 rfl (by kernel_rfl)) rfl ?_
 have bw := below_two nb hb1
 exact ⟨bT, dT, bO, dO, bP, dP, bL, dL, bK, dK, rfl, engO HEG.out ou (by omega) (by omega) (by omega), bw.trans (ou.below (by omega) bw.size)⟩
set_option maxHeartbeats 8000000 in
theorem implAcked_size {w : World} (now nx : Int) {aT aO aP aL aK : Option Addr} (cT cO cP cL cK : Nat) {T O P : List Q4} {L : List F8} {K : List Kn} (id n : Int) (hT : Quad w.heap.size w aT T) (hO : Quad w.heap.size w aO O) (hP : Quad w.heap.size w aP P) (hL : Fls w.heap.size w aL L) (hK : Kls w.heap.size w aK K) (mL : L.length ≤ 1048576) (sL : ∀ f ∈ L, f.2.2.length ≤ 1048576) (mK : K.length ≤ 1048576) (sK : ∀ c ∈ K, c.xs.length ≤ 1048576) (h1 : engB now nx T O P L K = true) (i : Nat) (hi : i < K.length) (hf : fK K id = (i : Int)) (hg : inQ 1 n K[i].fl = false) : Calls Tryz.prog 15 #[engV now aT T.length cT aO O.length cO aP P.length cP aL L.length cL aK K.length cK nx, .int .i64 id, .int .i64 n] w (EgPost w now nx T O P L K (.int .i64 7)) := by
 obtain ⟨v, hv, nb, L0, L1⟩ := pre2 w 38 [.int .i64 now, .slice aT T.length cT, .slice aO O.length cO, .slice aP P.length cP, .slice aL L.length cL, .slice aK K.length cK, .int .i64 nx] [.int .i64 0, .slice none 0 0, .slice none 0 0, .slice none 0 0, .slice none 0 0, .slice none 0 0, .int .i64 0]
 have hw1 := L1.lt
 go_enter Tryz.func15, Tryz.ntmps15
 go_upto_region 1 with (fail)
 rw [← hv]
 clear hv
 obtain ⟨q0, q1, q2, q3, q4, q5, q6⟩ := Lay.c7 (b := w.heap.size) L0
 go_wp2_with (first | (go_at_call 55; refine (fly_size_false now nx cT cO cP cL cK id n (hT.here nb) (hO.here nb) (hP.here nb) (hL.here nb) (hK.here nb) mL sL mK sK h1 i hi hf hg).mono ?_; rintro e u1 ⟨bT, dT, bO, dO, bP, dP, bL, dL, bK, dK, rfl, eg, hb1⟩; have HEG : Hid (Eng u1 v.heap.size u1.heap.size (.slice bT T.length dT) (.slice bO O.length dO) (.slice bP P.length dP) (.slice bL L.length dL) (.slice bK K.length dK) T O P L K) := eg; have LU := L1.next hb1; obtain ⟨z0, z1, z2, z3, z4, z5, z6⟩ := LU.c7; have fz := LU.free))
 obtain ⟨u, hu', ou, U⟩ := st7 (b := w.heap.size + 1) LU (.int .i64 now) (.slice bT T.length dT) (.slice bO O.length dO) (.slice bP P.length dP) (.slice bL L.length dL) (.slice bK K.length dK) (.int .i64 nx)
 rw [hu']
 clear hu'
 have zb := nb.size
 have z1 := hb1.size
 have zu := ou.size
 refine bodyPost_ret (results_two rfl _ _ _ [.int .i64 now, .slice bT T.length dT, .slice bO O.length dO, .slice bP P.length dP, .slice bL L.length dL, .slice bK K.length dK, .int .i64 nx] rfl U.cell Tryz.underlying38 rfl (by kernel_rfl)) rfl ?_
 have bw := below_two nb hb1
 exact ⟨bT, dT, bO, dO, bP, dP, bL, dL, bK, dK, rfl, engO HEG.out ou (by omega) (by omega) (by omega), bw.trans (ou.below (by omega) bw.size)⟩
set_option maxHeartbeats 8000000 in
theorem implAcked_go {w : World} (now nx : Int) {aT aO aP aL aK : Option Addr} (cT cO cP cL cK : Nat) {T O P : List Q4} {L : List F8} {K : List Kn} (id n : Int) (hT : Quad w.heap.size w aT T) (hO : Quad w.heap.size w aO O) (hP : Quad w.heap.size w aP P) (hL : Fls w.heap.size w aL L) (hK : Kls w.heap.size w aK K) (mL : L.length ≤ 1048576) (sL : ∀ f ∈ L, f.2.2.length ≤ 1048576) (mK : K.length ≤ 1048576) (sK : ∀ c ∈ K, c.xs.length ≤ 1048576) (h1 : engB now nx T O P L K = true) (i : Nat) (hi : i < K.length) (hf : fK K id = (i : Int)) (hg : inQ 1 n K[i].fl = true) (p : Nat) (hpl : K[i].pl = (p : Int)) (hp : p < L.length) : Calls Tryz.prog 15 #[engV now aT T.length cT aO O.length cO aP P.length cP aL L.length cL aK K.length cK nx, .int .i64 id, .int .i64 n] w (EgPost w now nx T O P (L.set p (flyP L p n false)) (K.set i (K[i].cc (flyD K[i] n now false))) (.int .i64 0)) := by
 obtain ⟨v, hv, nb, L0, L1⟩ := pre2 w 38 [.int .i64 now, .slice aT T.length cT, .slice aO O.length cO, .slice aP P.length cP, .slice aL L.length cL, .slice aK K.length cK, .int .i64 nx] [.int .i64 0, .slice none 0 0, .slice none 0 0, .slice none 0 0, .slice none 0 0, .slice none 0 0, .int .i64 0]
 have hw1 := L1.lt
 have con := fly_go_false now nx cT cO cP cL cK id n (hT.here nb) (hO.here nb) (hP.here nb) (hL.here nb) (hK.here nb) mL sL mK sK h1 i hi hf hg p hpl hp
 obtain ⟨YL, hYL⟩ : ∃ YL, L.set p (flyP L p n false) = YL := ⟨_, rfl⟩
 obtain ⟨YK, hYK⟩ : ∃ YK, K.set i (K[i].cc (flyD K[i] n now false)) = YK := ⟨_, rfl⟩
 rw [hYL, hYK] at con ⊢
 clear hYL hYK
 go_enter Tryz.func15, Tryz.ntmps15
 go_upto_region 1 with (fail)
 rw [← hv]
 clear hv
 obtain ⟨q0, q1, q2, q3, q4, q5, q6⟩ := Lay.c7 (b := w.heap.size) L0
 go_wp2_with (first | (go_at_call 55; refine (con).mono ?_; rintro e u1 ⟨bT, dT, bO, dO, bP, dP, bL, dL, bK, dK, rfl, eg, hb1⟩; have HEG : Hid (Eng u1 v.heap.size u1.heap.size (.slice bT T.length dT) (.slice bO O.length dO) (.slice bP P.length dP) (.slice bL YL.length dL) (.slice bK YK.length dK) T O P YL YK) := eg; have LU := L1.next hb1; obtain ⟨z0, z1, z2, z3, z4, z5, z6⟩ := LU.c7; have fz := LU.free))
 obtain ⟨u, hu', ou, U⟩ := st7 (b := w.heap.size + 1) LU (.int .i64 now) (.slice bT T.length dT) (.slice bO O.length dO) (.slice bP P.length dP) (.slice bL YL.length dL) (.slice bK YK.length dK) (.int .i64 nx)
 rw [hu']
 clear hu'
 have zb := nb.size
 have z1 := hb1.size
 have zu := ou.size
 refine bodyPost_ret (results_two rfl _ _ _ [.int .i64 now, .slice bT T.length dT, .slice bO O.length dO, .slice bP P.length dP, .slice bL YL.length dL, .slice bK YK.length dK, .int .i64 nx] rfl U.cell Tryz.underlying38 rfl (by kernel_rfl)) rfl ?_
 have bw := below_two nb hb1
 exact ⟨bT, dT, bO, dO, bP, dP, bL, dL, bK, dK, rfl, engO HEG.out ou (by omega) (by omega) (by omega), bw.trans (ou.below (by omega) bw.size)⟩
theorem acks14 (now nx : Int) (T O P : List Q4) (L : List F8) (K : List Kn) (id n : Int) (mT : T.length ≤ 1048576) (mL : L.length ≤ 1048576) (sL : ∀ f ∈ L, f.2.2.length ≤ 1048576) (mK : K.length ≤ 1048576) (sK : ∀ c ∈ K, c.xs.length ≤ 1048576) : ∃ (YN YX : Int) (YT YO YP : List Q4) (YL : List F8) (YK : List Kn) (f : Int), Sizes YT YO YP YL YK ∧ (∀ (w : World) (aT aO aP aL aK : Option Addr) (cT cO cP cL cK : Nat), Quad w.heap.size w aT T → Quad w.heap.size w aO O → Quad w.heap.size w aP P → Fls w.heap.size w aL L → Kls w.heap.size w aK K → Calls Tryz.prog 14 #[engV now aT T.length cT aO O.length cO aP P.length cP aL L.length cL aK K.length cK nx, .int .i64 id, .int .i64 n] w (EgPost w YN YX YT YO YP YL YK (.int .i64 f))) ∧ (∀ (w : World) (aT aO aP aL aK : Option Addr) (cT cO cP cL cK : Nat), Quad w.heap.size w aT T → Quad w.heap.size w aO O → Quad w.heap.size w aP P → Fls w.heap.size w aL L → Kls w.heap.size w aK K → Calls Tryz.prog 15 #[engV now aT T.length cT aO O.length cO aP P.length cP aL L.length cL aK K.length cK nx, .int .i64 id, .int .i64 n] w (EgPost w YN YX YT YO YP YL YK (.int .i64 f))) := by
 cases h1 : engB now nx T O P L K
 · exact ⟨0, 0, [], [], [], [], [], 1, (small_nil).sizes, fun w aT aO aP aL aK cT cO cP cL cK hT hO hP hL hK => specAcked_bad now nx cT cO cP cL cK id n hT hO hP hL hK mT mL sL mK sK h1, fun w aT aO aP aL aK cT cO cP cL cK hT hO hP hL hK => implAcked_bad now nx cT cO cP cL cK id n hT hO hP hL hK mL sL mK sK h1⟩
 · have es := eg_small (eg_yes h1)
   by_cases hf : fK K id = -1
   · exact ⟨now, nx, T, O, P, L, K, 2, (es).sizes, fun w aT aO aP aL aK cT cO cP cL cK hT hO hP hL hK => specAcked_id now nx cT cO cP cL cK id n hT hO hP hL hK mT mL sL mK sK h1 hf, fun w aT aO aP aL aK cT cO cP cL cK hT hO hP hL hK => implAcked_id now nx cT cO cP cL cK id n hT hO hP hL hK mL sL mK sK h1 hf⟩
   · have hge : fK K id ≠ -1 := hf
     obtain ⟨i, hi, hfi, _⟩ := fK_some hge
     cases hg : inQ 1 n K[i].fl
     · exact ⟨now, nx, T, O, P, L, K, 7, (es).sizes, fun w aT aO aP aL aK cT cO cP cL cK hT hO hP hL hK => specAcked_size now nx cT cO cP cL cK id n hT hO hP hL hK mT mL sL mK sK h1 i hi hfi hg, fun w aT aO aP aL aK cT cO cP cL cK hT hO hP hL hK => implAcked_size now nx cT cO cP cL cK id n hT hO hP hL hK mL sL mK sK h1 i hi hfi hg⟩
     · obtain ⟨p, hpl, hp⟩ := eg_place (eg_yes h1) hi
       rcases eg_kind (eg_yes h1) hi with hk | hk
       · exact ⟨now, nx, T, O, P, L.set p (flyP L p n false), K.set i (K[i].cc (flyD K[i] n now false)), 0, ((es.setK (by have := con_xs ((eg_yes h1).con i hi); show K[i].xs.length ≤ 1000; omega)).setL (by rw [flyP_at hp]; exact es.lm L[p] (List.getElem_mem hp))).sizes, fun w aT aO aP aL aK cT cO cP cL cK hT hO hP hL hK => specAcked_go1 now nx cT cO cP cL cK id n hT hO hP hL hK mT mL sL mK sK h1 i hi hfi hg p hpl hp hk, fun w aT aO aP aL aK cT cO cP cL cK hT hO hP hL hK => implAcked_go now nx cT cO cP cL cK id n hT hO hP hL hK mL sL mK sK h1 i hi hfi hg p hpl hp⟩
       · exact ⟨now, nx, T, O, P, L.set p (flyP L p n false), K.set i (K[i].cc (flyD K[i] n now false)), 0, ((es.setK (by have := con_xs ((eg_yes h1).con i hi); show K[i].xs.length ≤ 1000; omega)).setL (by rw [flyP_at hp]; exact es.lm L[p] (List.getElem_mem hp))).sizes, fun w aT aO aP aL aK cT cO cP cL cK hT hO hP hL hK => specAcked_go2 now nx cT cO cP cL cK id n hT hO hP hL hK mT mL sL mK sK h1 i hi hfi hg p hpl hp hk, fun w aT aO aP aL aK cT cO cP cL cK hT hO hP hL hK => implAcked_go now nx cT cO cP cL cK id n hT hO hP hL hK mL sL mK sK h1 i hi hfi hg p hpl hp⟩
end Go.Proofs.YtkohlmloobojfaaGreat
