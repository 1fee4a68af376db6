/- What impl.EngineOk answers. -/
import Derived.Test.YtibfclfidaofkasImplPlRight
import Derived.Test.YtibfclfidaofkasGrpY
namespace Go.Proofs.Ytibfclfidaofkas
open Go.ChangeShapes Go.WideShapes Go.ChangeAt Go.RowKit
set_option maxRecDepth 100000
set_option linter.unusedVariables false
set_option linter.unusedSimpArgs false

theorem iLend_is {w : World} {aT aO aP : Option Addr} (cT cO cP : Nat) {T O P : List Q4} {f : Bool} (hf : lendB T O P = f) (hT : Quad w.heap.size w aT T) (hO : Quad w.heap.size w aO O) (hP : Quad w.heap.size w aP P) :
    Calls Try.prog 29 #[lendV aT T.length cT aO O.length cO aP P.length cP] w fun e w' => e = .returned (.bool f) ∧ Below w.heap.size w w' := by subst hf; exact iLendOk_any cT cO cP hT hO hP
theorem con_may {T : List Q4} {n : Nat} {c : Kn} : conB T n c = (inQ 0 c.id 1000000 && mayB T n c) := by
  unfold conB mayB hasL
  cases h5 : ccB c.k c.wn c.th c.fl c.ac c.la c.og c.st c.fr
  · simp
  · have hk := (cc_num h5).1
    have e : (!decide (c.k = 3)) = conK c.k := by
      unfold conK
      by_cases e1 : c.k = 1
      · simp [e1]
      · by_cases e2 : c.k = 2
        · simp [e2]
        · have e3 : c.k = 3 := by omega
          simp [e3]
    rw [e]
    cases inQ 0 c.id 1000000 <;> cases inQ 0 c.lf ((T.length : Int) - 1) <;> cases leafB T c.lf <;> cases inQ 0 c.pl ((n : Int) - 1) <;> simp
theorem eg_mem {now nx : Int} {T O P : List Q4} {L : List F8} {K : List Kn} (h : EgOk now nx T O P L K) : MemTo (idsK K) (idsK K).length := fun i hi _ => by
  have hi' : i < K.length := by rw [idsK_length] at hi; exact hi
  rw [idsK_at hi' hi]
  refine ⟨?_, fun j hj e => ?_⟩
  · have q := h.con i hi'
    rw [con_may, Bool.and_eq_true] at q
    have q1 := q.1
    unfold inQ at q1
    simp only [Bool.and_eq_true, decide_eq_true_eq] at q1
    exact q1
  · subst e
    have hj' : j < K.length := by omega
    rw [idsK_at hj' hj]
    exact h.rise j hj' hi'
theorem eg_may {now nx : Int} {T O P : List Q4} {L : List F8} {K : List Kn} (h : EgOk now nx T O P L K) : K.all (mayB T L.length) = true := by
  rw [List.all_eq_true]
  intro x hx
  obtain ⟨i, hi, rfl⟩ := List.mem_iff_getElem.1 hx
  have q := h.con i hi
  rw [con_may, Bool.and_eq_true] at q
  exact q.2
theorem eg_of {now nx : Int} {T O P : List Q4} {L : List F8} {K : List Kn} (h1 : lendB T O P = true) (h2 : atOf O = now) (h3 : inQ 0 nx 1000001 = true) (h4 : 1 ≤ L.length) (h5 : L.length ≤ 10) (h6 : K.length ≤ 40) (hm : MemTo (idsK K) (idsK K).length) (hy : K.all (mayB T L.length) = true) (hp : ∀ p (h : p < L.length), plR L[p].1 L[p].2.1 L[p].2.2 K p) : EgOk now nx T O P L K := by
  have hid : ∀ i (h : i < K.length), 0 ≤ K[i].id ∧ K[i].id ≤ 1000000 := fun i h => by
    have h' : i < (idsK K).length := by rw [idsK_length]; exact h
    have q := (hm i h' h').1
    rw [idsK_at h h'] at q
    exact q
  refine ⟨h1, h2, h3, h4, h5, h6, fun i hi => ?_, fun i hi hi' => ?_, hp⟩
  · rw [con_may, Bool.and_eq_true]
    refine ⟨?_, (List.all_eq_true.1 hy) _ (List.getElem_mem hi)⟩
    unfold inQ
    simp only [Bool.and_eq_true, decide_eq_true_eq]
    exact hid i hi
  · have a : i < (idsK K).length := by rw [idsK_length]; exact hi
    have b : i + 1 < (idsK K).length := by rw [idsK_length]; exact hi'
    have q := (hm (i + 1) b b).2 i a rfl
    rw [idsK_at hi a, idsK_at hi' b] at q
    exact q
theorem may_fl {T : List Q4} {n : Nat} {K : List Kn} (hy : K.all (mayB T n) = true) : ∀ c ∈ K, 0 ≤ c.fl ∧ c.fl ≤ 1000000000 := fun c hc => by
  have q := (List.all_eq_true.1 hy) c hc
  unfold mayB at q
  simp only [Bool.and_eq_true] at q
  exact (cc_num q.1.1.1.2).2.2.2.1
theorem plRight_is {w : World} {now nx : Int} {aT aO aP aL aK : Option Addr} {nT cT nO cO nP cP cL cK : Nat} {L : List F8} {K : List Kn} {p : Nat} {wd fl : Int} {xs : List Int} {f : Bool} (hf : plRB wd fl xs K p = f) (hp : p < L.length) (hx : L[p] = (wd, fl, xs)) (hL : Fls w.heap.size w aL L) (hK : Kls w.heap.size w aK K) (nL : L.length ≤ 10) (nK : K.length ≤ 40) (xl : xs.length ≤ 1048576) (hfl : ∀ c ∈ K, 0 ≤ c.fl ∧ c.fl ≤ 1000000000) :
    Calls Try.prog 36 #[engV now aT nT cT aO nO cO aP nP cP aL L.length cL aK K.length cK nx, .int .i64 p] w fun e w' => e = .returned (.bool f) ∧ Below w.heap.size w w' := by subst hf; exact plRight_any now nx hp hx hL hK nL nK xl hfl
set_option maxHeartbeats 8000000 in
theorem implEng_no1 {w : World} (now nx : Int) {aT aO aP aL aK : Option Addr} (cT cO cP cL cK : Nat) {T O P : List Q4} {L : List F8} {K : List Kn} (hT : Quad w.heap.size w aT T) (hO : Quad w.heap.size w aO O) (hP : Quad w.heap.size w aP P) (hL : Fls w.heap.size w aL L) (hK : Kls w.heap.size w aK K) (mL : L.length ≤ 1048576) (sL : ∀ f ∈ L, f.2.2.length ≤ 1048576) (mK : K.length ≤ 1048576) (sK : ∀ c ∈ K, c.xs.length ≤ maxLen) (h1 : lendB T O P = false) :
    Calls Try.prog 8 #[engV now aT T.length cT aO O.length cO aP P.length cP aL L.length cL aK K.length cK nx] w fun e w' => e = .returned (.bool (engB now nx T O P L K)) ∧ Below w.heap.size w w' := by
  obtain ⟨v, hv⟩ : ∃ v, v = w.alloc (.cells #[.int .i64 now, .slice aT T.length cT, .slice aO O.length cO, .slice aP P.length cP, .slice aL L.length cL, .slice aK K.length cK, .int .i64 nx] 39) := ⟨_, rfl⟩
  have nb : Below w.heap.size w v := by rw [hv]; go_grown
  have L0 : Lay v w.heap.size [.int .i64 now, .slice aT T.length cT, .slice aO O.length cO, .slice aP P.length cP, .slice aL L.length cL, .slice aK K.length cK, .int .i64 nx] := by rw [hv]; exact lay_new [.int .i64 now, .slice aT T.length cT, .slice aO O.length cO, .slice aP P.length cP, .slice aL L.length cL, .slice aK K.length cK, .int .i64 nx] _ rfl
  have HE : Hid (engB now nx T O P L K = false) := eg_false (fun h => by have q := h.lend; rw [h1] at q; cases q)
  go_enter Try.func8, Try.ntmps8
  go_upto_region 1 with (fail)
  rw [← hv]
  clear hv
  have HS : Hid (∀ x, Below v.heap.size v x → x.cell? ⟨w.heap.size, 0, none⟩ = some (.int .i64 now) ∧ x.cell? ⟨w.heap.size, 1, none⟩ = some (.slice aT T.length cT) ∧ x.cell? ⟨w.heap.size, 2, none⟩ = some (.slice aO O.length cO) ∧ x.cell? ⟨w.heap.size, 3, none⟩ = some (.slice aP P.length cP) ∧ x.cell? ⟨w.heap.size, 4, none⟩ = some (.slice aL L.length cL) ∧ x.cell? ⟨w.heap.size, 5, none⟩ = some (.slice aK K.length cK) ∧ x.cell? ⟨w.heap.size, 6, none⟩ = some (.int .i64 nx)) := fun x hx => ⟨(L0.next hx).cell 0 _ rfl, (L0.next hx).cell 1 _ rfl, (L0.next hx).cell 2 _ rfl, (L0.next hx).cell 3 _ rfl, (L0.next hx).cell 4 _ rfl, (L0.next hx).cell 5 _ rfl, (L0.next hx).cell 6 _ rfl⟩
  refine wp_region_held_drew (S := fun w' => w'.cell? ⟨w.heap.size, 0, none⟩ = some (.int .i64 now) ∧ w'.cell? ⟨w.heap.size, 1, none⟩ = some (.slice aT T.length cT) ∧ w'.cell? ⟨w.heap.size, 2, none⟩ = some (.slice aO O.length cO) ∧ w'.cell? ⟨w.heap.size, 3, none⟩ = some (.slice aP P.length cP) ∧ w'.cell? ⟨w.heap.size, 4, none⟩ = some (.slice aL L.length cL) ∧ w'.cell? ⟨w.heap.size, 5, none⟩ = some (.slice aK K.length cK) ∧ w'.cell? ⟨w.heap.size, 6, none⟩ = some (.int .i64 nx)) (by kernel_rfl) (HS.out _ (Below.refl _ _).drew) (fun hS => ?_)
  refine wpAnyH_take (i := 0) (v := ?_) rfl (by kernel_rfl) (by kernel_rfl) (by kernel_rfl) (fun _ _ _ h => h) (Or.inl ⟨by rfl, ?_⟩) (by assumption) ?_
  rotate_left 1
  · (intro w' hSw; (try dsimp only at hSw); go_simp; try with_reducible rfl)
  try simp only [Act.put, List.setIfInBounds_toArray, List.set_cons_zero, List.set_cons_succ, List.getElem_toArray, List.getElem_cons_succ, List.getElem_cons_zero]
  refine wpAnyH_take (i := 1) (v := ?_) rfl (by kernel_rfl) (by kernel_rfl) (by kernel_rfl) (fun _ _ _ h => h) (Or.inl ⟨by rfl, ?_⟩) (by assumption) ?_
  rotate_left 1
  · (intro w' hSw; (try dsimp only at hSw); go_simp; try with_reducible rfl)
  try simp only [Act.put, List.setIfInBounds_toArray, List.set_cons_zero, List.set_cons_succ, List.getElem_toArray, List.getElem_cons_succ, List.getElem_cons_zero]
  refine wpAnyH_ready (rs := [2]) (by kernel_rfl) (by simp) (AllReadyH.cons rfl (fun Kr hKr => ?_) AllReadyH.nil)
  go_simp
  (refine (iLend_is cT cO cP h1 (hT.here nb.drew) (hO.here nb.drew) (hP.here nb.drew)).mono ?_; rintro e w5 ⟨rfl, hb5⟩; have hb5 := undrewE hb5; have hS5 := HS.out _ hb5)
  refine hKr.out _ _ (by assumption) (fun _ => ?_)
  try simp only [Act.put, List.setIfInBounds_toArray, List.set_cons_zero, List.set_cons_succ, List.getElem_toArray, List.getElem_cons_succ, List.getElem_cons_zero]
  refine wpAnyH_take (i := 3) (v := ?_) rfl (by kernel_rfl) (by kernel_rfl) (by kernel_rfl) (fun _ _ _ h => h) (Or.inl ⟨by rfl, ?_⟩) (by assumption) ?_
  rotate_left 1
  · (intro w' hSw; (try dsimp only at hSw); go_simp; try with_reducible rfl)
  try simp only [Act.put, List.setIfInBounds_toArray, List.set_cons_zero, List.set_cons_succ, List.getElem_toArray, List.getElem_cons_succ, List.getElem_cons_zero]
  refine wpAnyH_take (i := 4) (v := ?_) rfl (by kernel_rfl) (by kernel_rfl) (by kernel_rfl) (fun _ _ _ h => h) (Or.inl ⟨by rfl, ?_⟩) (by assumption) ?_
  rotate_left 1
  · (intro w' hSw; (try dsimp only at hSw); go_simp; try with_reducible rfl)
  try simp only [Act.put, List.setIfInBounds_toArray, List.set_cons_zero, List.set_cons_succ, List.getElem_toArray, List.getElem_cons_succ, List.getElem_cons_zero]
  refine wpAnyH_take (i := 5) (v := undef) rfl (by kernel_rfl) (by kernel_rfl) (by kernel_rfl) (fun _ _ _ h => h) (Or.inr ⟨by rfl, rfl⟩) (by assumption) ?_
  try simp only [Act.put, List.setIfInBounds_toArray, List.set_cons_zero, List.set_cons_succ, List.getElem_toArray, List.getElem_cons_succ, List.getElem_cons_zero]
  refine wpAnyH_take (i := 6) (v := undef) rfl (by kernel_rfl) (by kernel_rfl) (by kernel_rfl) (fun _ _ _ h => h) (Or.inr ⟨by rfl, rfl⟩) (by assumption) ?_
  try simp only [Act.put, List.setIfInBounds_toArray, List.set_cons_zero, List.set_cons_succ, List.getElem_toArray, List.getElem_cons_succ, List.getElem_cons_zero]
  refine wpAnyH_take (i := 7) (v := undef) rfl (by kernel_rfl) (by kernel_rfl) (by kernel_rfl) (fun _ _ _ h => h) (Or.inr ⟨by rfl, rfl⟩) (by assumption) ?_
  try simp only [Act.put, List.setIfInBounds_toArray, List.set_cons_zero, List.set_cons_succ, List.getElem_toArray, List.getElem_cons_succ, List.getElem_cons_zero]
  refine wpAnyH_take (i := 8) (v := undef) rfl (by kernel_rfl) (by kernel_rfl) (by kernel_rfl) (fun _ _ _ h => h) (Or.inr ⟨by rfl, rfl⟩) (by assumption) ?_
  try simp only [Act.put, List.setIfInBounds_toArray, List.set_cons_zero, List.set_cons_succ, List.getElem_toArray, List.getElem_cons_succ, List.getElem_cons_zero]
  refine wpAnyH_take (i := 9) (v := undef) rfl (by kernel_rfl) (by kernel_rfl) (by kernel_rfl) (fun _ _ _ h => h) (Or.inr ⟨by rfl, rfl⟩) (by assumption) ?_
  try simp only [Act.put, List.setIfInBounds_toArray, List.set_cons_zero, List.set_cons_succ, List.getElem_toArray, List.getElem_cons_succ, List.getElem_cons_zero]
  refine wpAnyH_take (i := 10) (v := undef) rfl (by kernel_rfl) (by kernel_rfl) (by kernel_rfl) (fun _ _ _ h => h) (Or.inr ⟨by rfl, rfl⟩) (by assumption) ?_
  try simp only [Act.put, List.setIfInBounds_toArray, List.set_cons_zero, List.set_cons_succ, List.getElem_toArray, List.getElem_cons_succ, List.getElem_cons_zero]
  refine wpAnyH_take (i := 11) (v := undef) rfl (by kernel_rfl) (by kernel_rfl) (by kernel_rfl) (fun _ _ _ h => h) (Or.inr ⟨by rfl, rfl⟩) (by assumption) ?_
  try simp only [Act.put, List.setIfInBounds_toArray, List.set_cons_zero, List.set_cons_succ, List.getElem_toArray, List.getElem_cons_succ, List.getElem_cons_zero]
  refine wpAnyH_take (i := 12) (v := undef) rfl (by kernel_rfl) (by kernel_rfl) (by kernel_rfl) (fun _ _ _ h => h) (Or.inr ⟨by rfl, rfl⟩) (by assumption) ?_
  try simp only [Act.put, List.setIfInBounds_toArray, List.set_cons_zero, List.set_cons_succ, List.getElem_toArray, List.getElem_cons_succ, List.getElem_cons_zero]
  refine wpAnyH_take (i := 13) (v := undef) rfl (by kernel_rfl) (by kernel_rfl) (by kernel_rfl) (fun _ _ _ h => h) (Or.inr ⟨by rfl, rfl⟩) (by assumption) ?_
  try simp only [Act.put, List.setIfInBounds_toArray, List.set_cons_zero, List.set_cons_succ, List.getElem_toArray, List.getElem_cons_succ, List.getElem_cons_zero]
  refine wpAnyH_take (i := 14) (v := ?_) rfl (by kernel_rfl) (by kernel_rfl) (by kernel_rfl) (fun _ _ _ h => h) (Or.inl ⟨by rfl, ?_⟩) (by assumption) ?_
  rotate_left 1
  · (intro w' hSw; (try dsimp only at hSw); go_simp; try with_reducible rfl)
  try simp only [Act.put, List.setIfInBounds_toArray, List.set_cons_zero, List.set_cons_succ, List.getElem_toArray, List.getElem_cons_succ, List.getElem_cons_zero]
  refine wpAnyH_take (i := 15) (v := ?_) rfl (by kernel_rfl) (by kernel_rfl) (by kernel_rfl) (fun _ _ _ h => h) (Or.inl ⟨by rfl, ?_⟩) (by assumption) ?_
  rotate_left 1
  · (intro w' hSw; (try dsimp only at hSw); go_simp; try with_reducible rfl)
  try simp only [Act.put, List.setIfInBounds_toArray, List.set_cons_zero, List.set_cons_succ, List.getElem_toArray, List.getElem_cons_succ, List.getElem_cons_zero]
  refine wpAnyH_take (i := 16) (v := undef) rfl (by kernel_rfl) (by kernel_rfl) (by kernel_rfl) (fun _ _ _ h => h) (Or.inr ⟨by rfl, rfl⟩) (by assumption) ?_
  try simp only [Act.put, List.setIfInBounds_toArray, List.set_cons_zero, List.set_cons_succ, List.getElem_toArray, List.getElem_cons_succ, List.getElem_cons_zero]
  refine wpAnyH_take (i := 17) (v := undef) rfl (by kernel_rfl) (by kernel_rfl) (by kernel_rfl) (fun _ _ _ h => h) (Or.inr ⟨by rfl, rfl⟩) (by assumption) ?_
  try simp only [Act.put, List.setIfInBounds_toArray, List.set_cons_zero, List.set_cons_succ, List.getElem_toArray, List.getElem_cons_succ, List.getElem_cons_zero]
  refine wpAnyH_take (i := 18) (v := undef) rfl (by kernel_rfl) (by kernel_rfl) (by kernel_rfl) (fun _ _ _ h => h) (Or.inr ⟨by rfl, rfl⟩) (by assumption) ?_
  try simp only [Act.put, List.setIfInBounds_toArray, List.set_cons_zero, List.set_cons_succ, List.getElem_toArray, List.getElem_cons_succ, List.getElem_cons_zero]
  refine wpAnyH_take (i := 19) (v := undef) rfl (by kernel_rfl) (by kernel_rfl) (by kernel_rfl) (fun _ _ _ h => h) (Or.inr ⟨by rfl, rfl⟩) (by assumption) ?_
  try simp only [Act.put, List.setIfInBounds_toArray, List.set_cons_zero, List.set_cons_succ, List.getElem_toArray, List.getElem_cons_succ, List.getElem_cons_zero]
  refine wpAnyH_take (i := 20) (v := ?_) rfl (by kernel_rfl) (by kernel_rfl) (by kernel_rfl) (fun _ _ _ h => h) (Or.inl ⟨by rfl, ?_⟩) (by assumption) ?_
  rotate_left 1
  · (intro w' hSw; (try dsimp only at hSw); go_simp; try with_reducible rfl)
  try simp only [Act.put, List.setIfInBounds_toArray, List.set_cons_zero, List.set_cons_succ, List.getElem_toArray, List.getElem_cons_succ, List.getElem_cons_zero]
  refine wpAnyH_done (by kernel_rfl) ?_ _
  go_wp2
  go_ret
  exact ⟨retC HE.out.symm, below_two nb hb5⟩
set_option maxHeartbeats 8000000 in
theorem implEng_no2 {w : World} (now nx : Int) {aT aO aP aL aK : Option Addr} (cT cO cP cL cK : Nat) {T O P : List Q4} {L : List F8} {K : List Kn} (hT : Quad w.heap.size w aT T) (hO : Quad w.heap.size w aO O) (hP : Quad w.heap.size w aP P) (hL : Fls w.heap.size w aL L) (hK : Kls w.heap.size w aK K) (mL : L.length ≤ 1048576) (sL : ∀ f ∈ L, f.2.2.length ≤ 1048576) (mK : K.length ≤ 1048576) (sK : ∀ c ∈ K, c.xs.length ≤ maxLen) (h1 : lendB T O P = true) (h2 : ¬ atOf O = now) :
    Calls Try.prog 8 #[engV now aT T.length cT aO O.length cO aP P.length cP aL L.length cL aK K.length cK nx] w fun e w' => e = .returned (.bool (engB now nx T O P L K)) ∧ Below w.heap.size w w' := by
  obtain ⟨v, hv⟩ : ∃ v, v = w.alloc (.cells #[.int .i64 now, .slice aT T.length cT, .slice aO O.length cO, .slice aP P.length cP, .slice aL L.length cL, .slice aK K.length cK, .int .i64 nx] 39) := ⟨_, rfl⟩
  have nb : Below w.heap.size w v := by rw [hv]; go_grown
  have L0 : Lay v w.heap.size [.int .i64 now, .slice aT T.length cT, .slice aO O.length cO, .slice aP P.length cP, .slice aL L.length cL, .slice aK K.length cK, .int .i64 nx] := by rw [hv]; exact lay_new [.int .i64 now, .slice aT T.length cT, .slice aO O.length cO, .slice aP P.length cP, .slice aL L.length cL, .slice aK K.length cK, .int .i64 nx] _ rfl
  have hlo := (lend_of h1).lo
  have hl0 := (lend_of h1).tree.l0
  have hl30 := (lend_of h1).tree.l1
  have h0O : 0 < O.length := by omega
  have h0O' : (0 : Int) < (O.length : Int) := by omega
  clear hlo hl0
  obtain ⟨A, hA⟩ : ∃ A, O[0].2.2.2 = A := ⟨_, rfl⟩
  have HA : Hid (atOf O = A) := (atOf_at h0O).trans hA
  rw [HA.out] at h2
  obtain ⟨bo, oo, hao, hbo, -, -, -, qA⟩ := hO.at nb 0 h0O
  rw [hA, Nat.zero_mul, Nat.add_zero] at qA
  subst hao
  clear hA
  have h2' : (A != now) = true := by simp [h2]
  have HE : Hid (engB now nx T O P L K = false) := eg_false (fun h => by exact h2 (HA.out.symm.trans h.at'))
  go_enter Try.func8, Try.ntmps8
  go_upto_region 1 with (fail)
  rw [← hv]
  clear hv
  have HS : Hid (∀ x, Below v.heap.size v x → x.cell? ⟨w.heap.size, 0, none⟩ = some (.int .i64 now) ∧ x.cell? ⟨w.heap.size, 1, none⟩ = some (.slice aT T.length cT) ∧ x.cell? ⟨w.heap.size, 2, none⟩ = some (.slice (some ⟨bo, oo, none⟩) O.length cO) ∧ x.cell? ⟨w.heap.size, 3, none⟩ = some (.slice aP P.length cP) ∧ x.cell? ⟨w.heap.size, 4, none⟩ = some (.slice aL L.length cL) ∧ x.cell? ⟨w.heap.size, 5, none⟩ = some (.slice aK K.length cK) ∧ x.cell? ⟨w.heap.size, 6, none⟩ = some (.int .i64 nx) ∧ x.cell? ⟨bo, oo + 3, none⟩ = some (.int .i64 A)) := fun x hx => ⟨(L0.next hx).cell 0 _ rfl, (L0.next hx).cell 1 _ rfl, (L0.next hx).cell 2 _ rfl, (L0.next hx).cell 3 _ rfl, (L0.next hx).cell 4 _ rfl, (L0.next hx).cell 5 _ rfl, (L0.next hx).cell 6 _ rfl, (hx.cell (by exact Nat.lt_of_lt_of_le hbo nb.size)).trans qA⟩
  refine wp_region_held_drew (S := fun w' => w'.cell? ⟨w.heap.size, 0, none⟩ = some (.int .i64 now) ∧ w'.cell? ⟨w.heap.size, 1, none⟩ = some (.slice aT T.length cT) ∧ w'.cell? ⟨w.heap.size, 2, none⟩ = some (.slice (some ⟨bo, oo, none⟩) O.length cO) ∧ w'.cell? ⟨w.heap.size, 3, none⟩ = some (.slice aP P.length cP) ∧ w'.cell? ⟨w.heap.size, 4, none⟩ = some (.slice aL L.length cL) ∧ w'.cell? ⟨w.heap.size, 5, none⟩ = some (.slice aK K.length cK) ∧ w'.cell? ⟨w.heap.size, 6, none⟩ = some (.int .i64 nx) ∧ w'.cell? ⟨bo, oo + 3, none⟩ = some (.int .i64 A)) (by kernel_rfl) (HS.out _ (Below.refl _ _).drew) (fun hS => ?_)
  refine wpAnyH_take (i := 0) (v := ?_) rfl (by kernel_rfl) (by kernel_rfl) (by kernel_rfl) (fun _ _ _ h => h) (Or.inl ⟨by rfl, ?_⟩) (by assumption) ?_
  rotate_left 1
  · (intro w' hSw; (try dsimp only at hSw); go_simp; try with_reducible rfl)
  try simp only [Act.put, List.setIfInBounds_toArray, List.set_cons_zero, List.set_cons_succ, List.getElem_toArray, List.getElem_cons_succ, List.getElem_cons_zero]
  refine wpAnyH_take (i := 1) (v := ?_) rfl (by kernel_rfl) (by kernel_rfl) (by kernel_rfl) (fun _ _ _ h => h) (Or.inl ⟨by rfl, ?_⟩) (by assumption) ?_
  rotate_left 1
  · (intro w' hSw; (try dsimp only at hSw); go_simp; try with_reducible rfl)
  try simp only [Act.put, List.setIfInBounds_toArray, List.set_cons_zero, List.set_cons_succ, List.getElem_toArray, List.getElem_cons_succ, List.getElem_cons_zero]
  refine wpAnyH_ready (rs := [2]) (by kernel_rfl) (by simp) (AllReadyH.cons rfl (fun Kr hKr => ?_) AllReadyH.nil)
  go_simp
  (refine (iLend_is cT cO cP h1 (hT.here nb.drew) (hO.here nb.drew) (hP.here nb.drew)).mono ?_; rintro e w5 ⟨rfl, hb5⟩; have hb5 := undrewE hb5; have hS5 := HS.out _ hb5)
  refine hKr.out _ _ (by assumption) (fun _ => ?_)
  try simp only [Act.put, List.setIfInBounds_toArray, List.set_cons_zero, List.set_cons_succ, List.getElem_toArray, List.getElem_cons_succ, List.getElem_cons_zero]
  refine wpAnyH_take (i := 3) (v := ?_) rfl (by kernel_rfl) (by kernel_rfl) (by kernel_rfl) (fun _ _ _ h => h) (Or.inl ⟨by rfl, ?_⟩) (by assumption) ?_
  rotate_left 1
  · (intro w' hSw; (try dsimp only at hSw); go_simp; try with_reducible rfl)
  try simp only [Act.put, List.setIfInBounds_toArray, List.set_cons_zero, List.set_cons_succ, List.getElem_toArray, List.getElem_cons_succ, List.getElem_cons_zero]
  refine wpAnyH_take (i := 4) (v := ?_) rfl (by kernel_rfl) (by kernel_rfl) (by kernel_rfl) (fun _ _ _ h => h) (Or.inl ⟨by rfl, ?_⟩) (by assumption) ?_
  rotate_left 1
  · (intro w' hSw; (try dsimp only at hSw); go_simp; try with_reducible rfl)
  try simp only [Act.put, List.setIfInBounds_toArray, List.set_cons_zero, List.set_cons_succ, List.getElem_toArray, List.getElem_cons_succ, List.getElem_cons_zero]
  refine wpAnyH_take (i := 5) (v := ?_) rfl (by kernel_rfl) (by kernel_rfl) (by kernel_rfl) (fun _ _ _ h => h) (Or.inl ⟨by rfl, ?_⟩) (by assumption) ?_
  rotate_left 1
  · (intro w' hSw; (try dsimp only at hSw); go_simp; try with_reducible rfl)
  try simp only [Act.put, List.setIfInBounds_toArray, List.set_cons_zero, List.set_cons_succ, List.getElem_toArray, List.getElem_cons_succ, List.getElem_cons_zero]
  refine wpAnyH_take (i := 6) (v := ?_) rfl (by kernel_rfl) (by kernel_rfl) (by kernel_rfl) (fun _ _ _ h => h) (Or.inl ⟨by rfl, ?_⟩) (by assumption) ?_
  rotate_left 1
  · (intro w' hSw; (try dsimp only at hSw); go_simp; try with_reducible rfl)
  try simp only [Act.put, List.setIfInBounds_toArray, List.set_cons_zero, List.set_cons_succ, List.getElem_toArray, List.getElem_cons_succ, List.getElem_cons_zero]
  refine wpAnyH_take (i := 7) (v := ?_) rfl (by kernel_rfl) (by kernel_rfl) (by kernel_rfl) (fun _ _ _ h => h) (Or.inl ⟨by rfl, ?_⟩) (by assumption) ?_
  rotate_left 1
  · (intro w' hSw; (try dsimp only at hSw); go_simp; try with_reducible rfl)
  try simp only [Act.put, List.setIfInBounds_toArray, List.set_cons_zero, List.set_cons_succ, List.getElem_toArray, List.getElem_cons_succ, List.getElem_cons_zero]
  refine wpAnyH_take (i := 8) (v := ?_) rfl (by kernel_rfl) (by kernel_rfl) (by kernel_rfl) (fun _ _ _ h => h) (Or.inl ⟨by rfl, ?_⟩) (by assumption) ?_
  rotate_left 1
  · (intro w' hSw; (try dsimp only at hSw); go_simp; try with_reducible rfl)
  try simp only [Act.put, List.setIfInBounds_toArray, List.set_cons_zero, List.set_cons_succ, List.getElem_toArray, List.getElem_cons_succ, List.getElem_cons_zero]
  refine wpAnyH_take (i := 9) (v := ?_) rfl (by kernel_rfl) (by kernel_rfl) (by kernel_rfl) (fun _ _ _ h => h) (Or.inl ⟨by rfl, ?_⟩) (by assumption) ?_
  rotate_left 1
  · (intro w' hSw; (try dsimp only at hSw); go_simp; try with_reducible rfl)
  try simp only [Act.put, List.setIfInBounds_toArray, List.set_cons_zero, List.set_cons_succ, List.getElem_toArray, List.getElem_cons_succ, List.getElem_cons_zero]
  refine wpAnyH_take (i := 10) (v := ?_) rfl (by kernel_rfl) (by kernel_rfl) (by kernel_rfl) (fun _ _ _ h => h) (Or.inl ⟨by rfl, ?_⟩) (by assumption) ?_
  rotate_left 1
  · (intro w' hSw; (try dsimp only at hSw); go_simp; try with_reducible rfl)
  try simp only [Act.put, List.setIfInBounds_toArray, List.set_cons_zero, List.set_cons_succ, List.getElem_toArray, List.getElem_cons_succ, List.getElem_cons_zero]
  refine wpAnyH_take (i := 11) (v := ?_) rfl (by kernel_rfl) (by kernel_rfl) (by kernel_rfl) (fun _ _ _ h => h) (Or.inl ⟨by rfl, ?_⟩) (by assumption) ?_
  rotate_left 1
  · (intro w' hSw; (try dsimp only at hSw); go_simp; try with_reducible rfl)
  try simp only [Act.put, List.setIfInBounds_toArray, List.set_cons_zero, List.set_cons_succ, List.getElem_toArray, List.getElem_cons_succ, List.getElem_cons_zero]
  refine wpAnyH_take (i := 12) (v := ?_) rfl (by kernel_rfl) (by kernel_rfl) (by kernel_rfl) (fun _ _ _ h => h) (Or.inl ⟨by rfl, ?_⟩) (by assumption) ?_
  rotate_left 1
  · (intro w' hSw; (try dsimp only at hSw); go_simp; try with_reducible rfl)
  try simp only [Act.put, List.setIfInBounds_toArray, List.set_cons_zero, List.set_cons_succ, List.getElem_toArray, List.getElem_cons_succ, List.getElem_cons_zero]
  refine wpAnyH_take (i := 13) (v := ?_) rfl (by kernel_rfl) (by kernel_rfl) (by kernel_rfl) (fun _ _ _ h => h) (Or.inl ⟨by rfl, ?_⟩) (by assumption) ?_
  rotate_left 1
  · (intro w' hSw; (try dsimp only at hSw); go_simp; try with_reducible rfl)
  try simp only [Act.put, List.setIfInBounds_toArray, List.set_cons_zero, List.set_cons_succ, List.getElem_toArray, List.getElem_cons_succ, List.getElem_cons_zero]
  refine wpAnyH_take (i := 14) (v := ?_) rfl (by kernel_rfl) (by kernel_rfl) (by kernel_rfl) (fun _ _ _ h => h) (Or.inl ⟨by rfl, ?_⟩) (by assumption) ?_
  rotate_left 1
  · (intro w' hSw; (try dsimp only at hSw); go_simp; try with_reducible rfl)
  try simp only [Act.put, List.setIfInBounds_toArray, List.set_cons_zero, List.set_cons_succ, List.getElem_toArray, List.getElem_cons_succ, List.getElem_cons_zero]
  refine wpAnyH_take (i := 15) (v := ?_) rfl (by kernel_rfl) (by kernel_rfl) (by kernel_rfl) (fun _ _ _ h => h) (Or.inl ⟨by rfl, ?_⟩) (by assumption) ?_
  rotate_left 1
  · (intro w' hSw; (try dsimp only at hSw); go_simp; try with_reducible rfl)
  try simp only [Act.put, List.setIfInBounds_toArray, List.set_cons_zero, List.set_cons_succ, List.getElem_toArray, List.getElem_cons_succ, List.getElem_cons_zero]
  refine wpAnyH_take (i := 16) (v := undef) rfl (by kernel_rfl) (by kernel_rfl) (by kernel_rfl) (fun _ _ _ h => h) (Or.inr ⟨by rfl, rfl⟩) (by assumption) ?_
  try simp only [Act.put, List.setIfInBounds_toArray, List.set_cons_zero, List.set_cons_succ, List.getElem_toArray, List.getElem_cons_succ, List.getElem_cons_zero]
  refine wpAnyH_take (i := 17) (v := undef) rfl (by kernel_rfl) (by kernel_rfl) (by kernel_rfl) (fun _ _ _ h => h) (Or.inr ⟨by rfl, rfl⟩) (by assumption) ?_
  try simp only [Act.put, List.setIfInBounds_toArray, List.set_cons_zero, List.set_cons_succ, List.getElem_toArray, List.getElem_cons_succ, List.getElem_cons_zero]
  refine wpAnyH_take (i := 18) (v := undef) rfl (by kernel_rfl) (by kernel_rfl) (by kernel_rfl) (fun _ _ _ h => h) (Or.inr ⟨by rfl, rfl⟩) (by assumption) ?_
  try simp only [Act.put, List.setIfInBounds_toArray, List.set_cons_zero, List.set_cons_succ, List.getElem_toArray, List.getElem_cons_succ, List.getElem_cons_zero]
  refine wpAnyH_take (i := 19) (v := undef) rfl (by kernel_rfl) (by kernel_rfl) (by kernel_rfl) (fun _ _ _ h => h) (Or.inr ⟨by rfl, rfl⟩) (by assumption) ?_
  try simp only [Act.put, List.setIfInBounds_toArray, List.set_cons_zero, List.set_cons_succ, List.getElem_toArray, List.getElem_cons_succ, List.getElem_cons_zero]
  refine wpAnyH_take (i := 20) (v := ?_) rfl (by kernel_rfl) (by kernel_rfl) (by kernel_rfl) (fun _ _ _ h => h) (Or.inl ⟨by rfl, ?_⟩) (by assumption) ?_
  rotate_left 1
  · (intro w' hSw; (try dsimp only at hSw); go_simp; try with_reducible rfl)
  try simp only [Act.put, List.setIfInBounds_toArray, List.set_cons_zero, List.set_cons_succ, List.getElem_toArray, List.getElem_cons_succ, List.getElem_cons_zero]
  refine wpAnyH_done (by kernel_rfl) ?_ _
  go_wp2
  go_ret
  exact ⟨retC HE.out.symm, below_two nb hb5⟩
set_option maxHeartbeats 8000000 in
theorem implEng_no3 {w : World} (now nx : Int) {aT aO aP aL aK : Option Addr} (cT cO cP cL cK : Nat) {T O P : List Q4} {L : List F8} {K : List Kn} (hT : Quad w.heap.size w aT T) (hO : Quad w.heap.size w aO O) (hP : Quad w.heap.size w aP P) (hL : Fls w.heap.size w aL L) (hK : Kls w.heap.size w aK K) (mL : L.length ≤ 1048576) (sL : ∀ f ∈ L, f.2.2.length ≤ 1048576) (mK : K.length ≤ 1048576) (sK : ∀ c ∈ K, c.xs.length ≤ maxLen) (h1 : lendB T O P = true) (h2 : atOf O = now) (h3 : inQ 0 nx 1000001 = false) :
    Calls Try.prog 8 #[engV now aT T.length cT aO O.length cO aP P.length cP aL L.length cL aK K.length cK nx] w fun e w' => e = .returned (.bool (engB now nx T O P L K)) ∧ Below w.heap.size w w' := by
  obtain ⟨v, hv⟩ : ∃ v, v = w.alloc (.cells #[.int .i64 now, .slice aT T.length cT, .slice aO O.length cO, .slice aP P.length cP, .slice aL L.length cL, .slice aK K.length cK, .int .i64 nx] 39) := ⟨_, rfl⟩
  have nb : Below w.heap.size w v := by rw [hv]; go_grown
  have L0 : Lay v w.heap.size [.int .i64 now, .slice aT T.length cT, .slice aO O.length cO, .slice aP P.length cP, .slice aL L.length cL, .slice aK K.length cK, .int .i64 nx] := by rw [hv]; exact lay_new [.int .i64 now, .slice aT T.length cT, .slice aO O.length cO, .slice aP P.length cP, .slice aL L.length cL, .slice aK K.length cK, .int .i64 nx] _ rfl
  have hlo := (lend_of h1).lo
  have hl0 := (lend_of h1).tree.l0
  have hl30 := (lend_of h1).tree.l1
  have h0O : 0 < O.length := by omega
  have h0O' : (0 : Int) < (O.length : Int) := by omega
  clear hlo hl0
  obtain ⟨A, hA⟩ : ∃ A, O[0].2.2.2 = A := ⟨_, rfl⟩
  have HA : Hid (atOf O = A) := (atOf_at h0O).trans hA
  rw [HA.out] at h2
  obtain ⟨bo, oo, hao, hbo, -, -, -, qA⟩ := hO.at nb 0 h0O
  rw [hA, Nat.zero_mul, Nat.add_zero] at qA
  subst hao
  clear hA
  subst h2
  have HE : Hid (engB A nx T O P L K = false) := eg_false (fun h => by have q := h.nx'; rw [h3] at q; cases q)
  go_enter Try.func8, Try.ntmps8
  go_upto_region 1 with (fail)
  rw [← hv]
  clear hv
  have HS : Hid (∀ x, Below v.heap.size v x → x.cell? ⟨w.heap.size, 0, none⟩ = some (.int .i64 A) ∧ x.cell? ⟨w.heap.size, 1, none⟩ = some (.slice aT T.length cT) ∧ x.cell? ⟨w.heap.size, 2, none⟩ = some (.slice (some ⟨bo, oo, none⟩) O.length cO) ∧ x.cell? ⟨w.heap.size, 3, none⟩ = some (.slice aP P.length cP) ∧ x.cell? ⟨w.heap.size, 4, none⟩ = some (.slice aL L.length cL) ∧ x.cell? ⟨w.heap.size, 5, none⟩ = some (.slice aK K.length cK) ∧ x.cell? ⟨w.heap.size, 6, none⟩ = some (.int .i64 nx) ∧ x.cell? ⟨bo, oo + 3, none⟩ = some (.int .i64 A)) := fun x hx => ⟨(L0.next hx).cell 0 _ rfl, (L0.next hx).cell 1 _ rfl, (L0.next hx).cell 2 _ rfl, (L0.next hx).cell 3 _ rfl, (L0.next hx).cell 4 _ rfl, (L0.next hx).cell 5 _ rfl, (L0.next hx).cell 6 _ rfl, (hx.cell (by exact Nat.lt_of_lt_of_le hbo nb.size)).trans qA⟩
  refine wp_region_held_drew (S := fun w' => w'.cell? ⟨w.heap.size, 0, none⟩ = some (.int .i64 A) ∧ w'.cell? ⟨w.heap.size, 1, none⟩ = some (.slice aT T.length cT) ∧ w'.cell? ⟨w.heap.size, 2, none⟩ = some (.slice (some ⟨bo, oo, none⟩) O.length cO) ∧ w'.cell? ⟨w.heap.size, 3, none⟩ = some (.slice aP P.length cP) ∧ w'.cell? ⟨w.heap.size, 4, none⟩ = some (.slice aL L.length cL) ∧ w'.cell? ⟨w.heap.size, 5, none⟩ = some (.slice aK K.length cK) ∧ w'.cell? ⟨w.heap.size, 6, none⟩ = some (.int .i64 nx) ∧ w'.cell? ⟨bo, oo + 3, none⟩ = some (.int .i64 A)) (by kernel_rfl) (HS.out _ (Below.refl _ _).drew) (fun hS => ?_)
  refine wpAnyH_take (i := 0) (v := ?_) rfl (by kernel_rfl) (by kernel_rfl) (by kernel_rfl) (fun _ _ _ h => h) (Or.inl ⟨by rfl, ?_⟩) (by assumption) ?_
  rotate_left 1
  · (intro w' hSw; (try dsimp only at hSw); go_simp; try with_reducible rfl)
  try simp only [Act.put, List.setIfInBounds_toArray, List.set_cons_zero, List.set_cons_succ, List.getElem_toArray, List.getElem_cons_succ, List.getElem_cons_zero]
  refine wpAnyH_take (i := 1) (v := ?_) rfl (by kernel_rfl) (by kernel_rfl) (by kernel_rfl) (fun _ _ _ h => h) (Or.inl ⟨by rfl, ?_⟩) (by assumption) ?_
  rotate_left 1
  · (intro w' hSw; (try dsimp only at hSw); go_simp; try with_reducible rfl)
  try simp only [Act.put, List.setIfInBounds_toArray, List.set_cons_zero, List.set_cons_succ, List.getElem_toArray, List.getElem_cons_succ, List.getElem_cons_zero]
  refine wpAnyH_ready (rs := [2]) (by kernel_rfl) (by simp) (AllReadyH.cons rfl (fun Kr hKr => ?_) AllReadyH.nil)
  go_simp
  (refine (iLend_is cT cO cP h1 (hT.here nb.drew) (hO.here nb.drew) (hP.here nb.drew)).mono ?_; rintro e w5 ⟨rfl, hb5⟩; have hb5 := undrewE hb5; have hS5 := HS.out _ hb5)
  refine hKr.out _ _ (by assumption) (fun _ => ?_)
  try simp only [Act.put, List.setIfInBounds_toArray, List.set_cons_zero, List.set_cons_succ, List.getElem_toArray, List.getElem_cons_succ, List.getElem_cons_zero]
  refine wpAnyH_take (i := 3) (v := ?_) rfl (by kernel_rfl) (by kernel_rfl) (by kernel_rfl) (fun _ _ _ h => h) (Or.inl ⟨by rfl, ?_⟩) (by assumption) ?_
  rotate_left 1
  · (intro w' hSw; (try dsimp only at hSw); go_simp; try with_reducible rfl)
  try simp only [Act.put, List.setIfInBounds_toArray, List.set_cons_zero, List.set_cons_succ, List.getElem_toArray, List.getElem_cons_succ, List.getElem_cons_zero]
  refine wpAnyH_take (i := 4) (v := ?_) rfl (by kernel_rfl) (by kernel_rfl) (by kernel_rfl) (fun _ _ _ h => h) (Or.inl ⟨by rfl, ?_⟩) (by assumption) ?_
  rotate_left 1
  · (intro w' hSw; (try dsimp only at hSw); go_simp; try with_reducible rfl)
  try simp only [Act.put, List.setIfInBounds_toArray, List.set_cons_zero, List.set_cons_succ, List.getElem_toArray, List.getElem_cons_succ, List.getElem_cons_zero]
  refine wpAnyH_take (i := 5) (v := ?_) rfl (by kernel_rfl) (by kernel_rfl) (by kernel_rfl) (fun _ _ _ h => h) (Or.inl ⟨by rfl, ?_⟩) (by assumption) ?_
  rotate_left 1
  · (intro w' hSw; (try dsimp only at hSw); go_simp; try with_reducible rfl)
  try simp only [Act.put, List.setIfInBounds_toArray, List.set_cons_zero, List.set_cons_succ, List.getElem_toArray, List.getElem_cons_succ, List.getElem_cons_zero]
  refine wpAnyH_take (i := 6) (v := ?_) rfl (by kernel_rfl) (by kernel_rfl) (by kernel_rfl) (fun _ _ _ h => h) (Or.inl ⟨by rfl, ?_⟩) (by assumption) ?_
  rotate_left 1
  · (intro w' hSw; (try dsimp only at hSw); go_simp; try with_reducible rfl)
  try simp only [Act.put, List.setIfInBounds_toArray, List.set_cons_zero, List.set_cons_succ, List.getElem_toArray, List.getElem_cons_succ, List.getElem_cons_zero]
  refine wpAnyH_take (i := 7) (v := ?_) rfl (by kernel_rfl) (by kernel_rfl) (by kernel_rfl) (fun _ _ _ h => h) (Or.inl ⟨by rfl, ?_⟩) (by assumption) ?_
  rotate_left 1
  · (intro w' hSw; (try dsimp only at hSw); go_simp; try with_reducible rfl)
  try simp only [Act.put, List.setIfInBounds_toArray, List.set_cons_zero, List.set_cons_succ, List.getElem_toArray, List.getElem_cons_succ, List.getElem_cons_zero]
  refine wpAnyH_take (i := 8) (v := ?_) rfl (by kernel_rfl) (by kernel_rfl) (by kernel_rfl) (fun _ _ _ h => h) (Or.inl ⟨by rfl, ?_⟩) (by assumption) ?_
  rotate_left 1
  · (intro w' hSw; (try dsimp only at hSw); go_simp; try with_reducible rfl)
  try simp only [Act.put, List.setIfInBounds_toArray, List.set_cons_zero, List.set_cons_succ, List.getElem_toArray, List.getElem_cons_succ, List.getElem_cons_zero]
  refine wpAnyH_take (i := 9) (v := ?_) rfl (by kernel_rfl) (by kernel_rfl) (by kernel_rfl) (fun _ _ _ h => h) (Or.inl ⟨by rfl, ?_⟩) (by assumption) ?_
  rotate_left 1
  · (intro w' hSw; (try dsimp only at hSw); go_simp; try with_reducible rfl)
  try simp only [Act.put, List.setIfInBounds_toArray, List.set_cons_zero, List.set_cons_succ, List.getElem_toArray, List.getElem_cons_succ, List.getElem_cons_zero]
  refine wpAnyH_take (i := 10) (v := ?_) rfl (by kernel_rfl) (by kernel_rfl) (by kernel_rfl) (fun _ _ _ h => h) (Or.inl ⟨by rfl, ?_⟩) (by assumption) ?_
  rotate_left 1
  · (intro w' hSw; (try dsimp only at hSw); go_simp; try with_reducible rfl)
  try simp only [Act.put, List.setIfInBounds_toArray, List.set_cons_zero, List.set_cons_succ, List.getElem_toArray, List.getElem_cons_succ, List.getElem_cons_zero]
  refine wpAnyH_take (i := 11) (v := ?_) rfl (by kernel_rfl) (by kernel_rfl) (by kernel_rfl) (fun _ _ _ h => h) (Or.inl ⟨by rfl, ?_⟩) (by assumption) ?_
  rotate_left 1
  · (intro w' hSw; (try dsimp only at hSw); go_simp; try with_reducible rfl)
  try simp only [Act.put, List.setIfInBounds_toArray, List.set_cons_zero, List.set_cons_succ, List.getElem_toArray, List.getElem_cons_succ, List.getElem_cons_zero]
  refine wpAnyH_take (i := 12) (v := ?_) rfl (by kernel_rfl) (by kernel_rfl) (by kernel_rfl) (fun _ _ _ h => h) (Or.inl ⟨by rfl, ?_⟩) (by assumption) ?_
  rotate_left 1
  · (intro w' hSw; (try dsimp only at hSw); go_simp; try with_reducible rfl)
  try simp only [Act.put, List.setIfInBounds_toArray, List.set_cons_zero, List.set_cons_succ, List.getElem_toArray, List.getElem_cons_succ, List.getElem_cons_zero]
  refine wpAnyH_take (i := 13) (v := ?_) rfl (by kernel_rfl) (by kernel_rfl) (by kernel_rfl) (fun _ _ _ h => h) (Or.inl ⟨by rfl, ?_⟩) (by assumption) ?_
  rotate_left 1
  · (intro w' hSw; (try dsimp only at hSw); go_simp; try with_reducible rfl)
  try simp only [Act.put, List.setIfInBounds_toArray, List.set_cons_zero, List.set_cons_succ, List.getElem_toArray, List.getElem_cons_succ, List.getElem_cons_zero]
  refine wpAnyH_take (i := 14) (v := ?_) rfl (by kernel_rfl) (by kernel_rfl) (by kernel_rfl) (fun _ _ _ h => h) (Or.inl ⟨by rfl, ?_⟩) (by assumption) ?_
  rotate_left 1
  · (intro w' hSw; (try dsimp only at hSw); go_simp; try with_reducible rfl)
  try simp only [Act.put, List.setIfInBounds_toArray, List.set_cons_zero, List.set_cons_succ, List.getElem_toArray, List.getElem_cons_succ, List.getElem_cons_zero]
  refine wpAnyH_take (i := 15) (v := ?_) rfl (by kernel_rfl) (by kernel_rfl) (by kernel_rfl) (fun _ _ _ h => h) (Or.inl ⟨by rfl, ?_⟩) (by assumption) ?_
  rotate_left 1
  · (intro w' hSw; (try dsimp only at hSw); go_simp; try with_reducible rfl)
  try simp only [Act.put, List.setIfInBounds_toArray, List.set_cons_zero, List.set_cons_succ, List.getElem_toArray, List.getElem_cons_succ, List.getElem_cons_zero]
  refine wpAnyH_take (i := 16) (v := ?_) rfl (by kernel_rfl) (by kernel_rfl) (by kernel_rfl) (fun _ _ _ h => h) (Or.inl ⟨by rfl, ?_⟩) (by assumption) ?_
  rotate_left 1
  · (intro w' hSw; (try dsimp only at hSw); go_simp; try with_reducible rfl)
  try simp only [Act.put, List.setIfInBounds_toArray, List.set_cons_zero, List.set_cons_succ, List.getElem_toArray, List.getElem_cons_succ, List.getElem_cons_zero]
  refine wpAnyH_take (i := 17) (v := ?_) rfl (by kernel_rfl) (by kernel_rfl) (by kernel_rfl) (fun _ _ _ h => h) (Or.inl ⟨by rfl, ?_⟩) (by assumption) ?_
  rotate_left 1
  · (intro w' hSw; (try dsimp only at hSw); go_simp; try with_reducible rfl)
  try simp only [Act.put, List.setIfInBounds_toArray, List.set_cons_zero, List.set_cons_succ, List.getElem_toArray, List.getElem_cons_succ, List.getElem_cons_zero]
  refine wpAnyH_ready (rs := [18]) (by kernel_rfl) (by simp) (AllReadyH.cons rfl (fun Kr hKr => ?_) AllReadyH.nil)
  go_simp
  (refine (iQ_is h3 _).mono ?_; rintro e w3 ⟨rfl, e3⟩; replace e3 := e3.symm; subst e3)
  refine hKr.out _ _ (by assumption) (fun _ => ?_)
  try simp only [Act.put, List.setIfInBounds_toArray, List.set_cons_zero, List.set_cons_succ, List.getElem_toArray, List.getElem_cons_succ, List.getElem_cons_zero]
  refine wpAnyH_take (i := 19) (v := ?_) rfl (by kernel_rfl) (by kernel_rfl) (by kernel_rfl) (fun _ _ _ h => h) (Or.inl ⟨by rfl, ?_⟩) (by assumption) ?_
  rotate_left 1
  · (intro w' hSw; (try dsimp only at hSw); go_simp; try with_reducible rfl)
  try simp only [Act.put, List.setIfInBounds_toArray, List.set_cons_zero, List.set_cons_succ, List.getElem_toArray, List.getElem_cons_succ, List.getElem_cons_zero]
  refine wpAnyH_take (i := 20) (v := ?_) rfl (by kernel_rfl) (by kernel_rfl) (by kernel_rfl) (fun _ _ _ h => h) (Or.inl ⟨by rfl, ?_⟩) (by assumption) ?_
  rotate_left 1
  · (intro w' hSw; (try dsimp only at hSw); go_simp; try with_reducible rfl)
  try simp only [Act.put, List.setIfInBounds_toArray, List.set_cons_zero, List.set_cons_succ, List.getElem_toArray, List.getElem_cons_succ, List.getElem_cons_zero]
  refine wpAnyH_done (by kernel_rfl) ?_ _
  go_wp2
  go_ret
  exact ⟨retC HE.out.symm, below_two nb hb5⟩
set_option maxHeartbeats 8000000 in
theorem implEng_go {w : World} (now nx : Int) {aT aO aP aL aK : Option Addr} (cT cO cP cL cK : Nat) {T O P : List Q4} {L : List F8} {K : List Kn} (hT : Quad w.heap.size w aT T) (hO : Quad w.heap.size w aO O) (hP : Quad w.heap.size w aP P) (hL : Fls w.heap.size w aL L) (hK : Kls w.heap.size w aK K) (mL : L.length ≤ 1048576) (sL : ∀ f ∈ L, f.2.2.length ≤ 1048576) (mK : K.length ≤ 1048576) (sK : ∀ c ∈ K, c.xs.length ≤ maxLen) (h1 : lendB T O P = true) (h2 : atOf O = now) (h3 : inQ 0 nx 1000001 = true) :
    Calls Try.prog 8 #[engV now aT T.length cT aO O.length cO aP P.length cP aL L.length cL aK K.length cK nx] w fun e w' => e = .returned (.bool (engB now nx T O P L K)) ∧ Below w.heap.size w w' := by
  obtain ⟨v, hv⟩ : ∃ v, v = w.alloc (.cells #[.int .i64 now, .slice aT T.length cT, .slice aO O.length cO, .slice aP P.length cP, .slice aL L.length cL, .slice aK K.length cK, .int .i64 nx] 39) := ⟨_, rfl⟩
  have nb : Below w.heap.size w v := by rw [hv]; go_grown
  have L0 : Lay v w.heap.size [.int .i64 now, .slice aT T.length cT, .slice aO O.length cO, .slice aP P.length cP, .slice aL L.length cL, .slice aK K.length cK, .int .i64 nx] := by rw [hv]; exact lay_new [.int .i64 now, .slice aT T.length cT, .slice aO O.length cO, .slice aP P.length cP, .slice aL L.length cL, .slice aK K.length cK, .int .i64 nx] _ rfl
  have hlo := (lend_of h1).lo
  have hl0 := (lend_of h1).tree.l0
  have hl30 := (lend_of h1).tree.l1
  have h0O : 0 < O.length := by omega
  have h0O' : (0 : Int) < (O.length : Int) := by omega
  clear hlo hl0
  obtain ⟨A, hA⟩ : ∃ A, O[0].2.2.2 = A := ⟨_, rfl⟩
  have HA : Hid (atOf O = A) := (atOf_at h0O).trans hA
  rw [HA.out] at h2
  obtain ⟨bo, oo, hao, hbo, -, -, -, qA⟩ := hO.at nb 0 h0O
  rw [hA, Nat.zero_mul, Nat.add_zero] at qA
  subst hao
  clear hA
  subst h2
  go_enter Try.func8, Try.ntmps8
  go_upto_region 1 with (fail)
  rw [← hv]
  clear hv
  have HS : Hid (∀ x, Below v.heap.size v x → x.cell? ⟨w.heap.size, 0, none⟩ = some (.int .i64 A) ∧ x.cell? ⟨w.heap.size, 1, none⟩ = some (.slice aT T.length cT) ∧ x.cell? ⟨w.heap.size, 2, none⟩ = some (.slice (some ⟨bo, oo, none⟩) O.length cO) ∧ x.cell? ⟨w.heap.size, 3, none⟩ = some (.slice aP P.length cP) ∧ x.cell? ⟨w.heap.size, 4, none⟩ = some (.slice aL L.length cL) ∧ x.cell? ⟨w.heap.size, 5, none⟩ = some (.slice aK K.length cK) ∧ x.cell? ⟨w.heap.size, 6, none⟩ = some (.int .i64 nx) ∧ x.cell? ⟨bo, oo + 3, none⟩ = some (.int .i64 A)) := fun x hx => ⟨(L0.next hx).cell 0 _ rfl, (L0.next hx).cell 1 _ rfl, (L0.next hx).cell 2 _ rfl, (L0.next hx).cell 3 _ rfl, (L0.next hx).cell 4 _ rfl, (L0.next hx).cell 5 _ rfl, (L0.next hx).cell 6 _ rfl, (hx.cell (by exact Nat.lt_of_lt_of_le hbo nb.size)).trans qA⟩
  refine wp_region_held_drew (S := fun w' => w'.cell? ⟨w.heap.size, 0, none⟩ = some (.int .i64 A) ∧ w'.cell? ⟨w.heap.size, 1, none⟩ = some (.slice aT T.length cT) ∧ w'.cell? ⟨w.heap.size, 2, none⟩ = some (.slice (some ⟨bo, oo, none⟩) O.length cO) ∧ w'.cell? ⟨w.heap.size, 3, none⟩ = some (.slice aP P.length cP) ∧ w'.cell? ⟨w.heap.size, 4, none⟩ = some (.slice aL L.length cL) ∧ w'.cell? ⟨w.heap.size, 5, none⟩ = some (.slice aK K.length cK) ∧ w'.cell? ⟨w.heap.size, 6, none⟩ = some (.int .i64 nx) ∧ w'.cell? ⟨bo, oo + 3, none⟩ = some (.int .i64 A)) (by kernel_rfl) (HS.out _ (Below.refl _ _).drew) (fun hS => ?_)
  refine wpAnyH_take (i := 0) (v := ?_) rfl (by kernel_rfl) (by kernel_rfl) (by kernel_rfl) (fun _ _ _ h => h) (Or.inl ⟨by rfl, ?_⟩) (by assumption) ?_
  rotate_left 1
  · (intro w' hSw; (try dsimp only at hSw); go_simp; try with_reducible rfl)
  try simp only [Act.put, List.setIfInBounds_toArray, List.set_cons_zero, List.set_cons_succ, List.getElem_toArray, List.getElem_cons_succ, List.getElem_cons_zero]
  refine wpAnyH_take (i := 1) (v := ?_) rfl (by kernel_rfl) (by kernel_rfl) (by kernel_rfl) (fun _ _ _ h => h) (Or.inl ⟨by rfl, ?_⟩) (by assumption) ?_
  rotate_left 1
  · (intro w' hSw; (try dsimp only at hSw); go_simp; try with_reducible rfl)
  try simp only [Act.put, List.setIfInBounds_toArray, List.set_cons_zero, List.set_cons_succ, List.getElem_toArray, List.getElem_cons_succ, List.getElem_cons_zero]
  refine wpAnyH_ready (rs := [2]) (by kernel_rfl) (by simp) (AllReadyH.cons rfl (fun Kr hKr => ?_) AllReadyH.nil)
  go_simp
  (refine (iLend_is cT cO cP h1 (hT.here nb.drew) (hO.here nb.drew) (hP.here nb.drew)).mono ?_; rintro e w5 ⟨rfl, hb5⟩; have hb5 := undrewE hb5; have hS5 := HS.out _ hb5)
  refine hKr.out _ _ (by assumption) (fun _ => ?_)
  try simp only [Act.put, List.setIfInBounds_toArray, List.set_cons_zero, List.set_cons_succ, List.getElem_toArray, List.getElem_cons_succ, List.getElem_cons_zero]
  refine wpAnyH_take (i := 3) (v := ?_) rfl (by kernel_rfl) (by kernel_rfl) (by kernel_rfl) (fun _ _ _ h => h) (Or.inl ⟨by rfl, ?_⟩) (by assumption) ?_
  rotate_left 1
  · (intro w' hSw; (try dsimp only at hSw); go_simp; try with_reducible rfl)
  try simp only [Act.put, List.setIfInBounds_toArray, List.set_cons_zero, List.set_cons_succ, List.getElem_toArray, List.getElem_cons_succ, List.getElem_cons_zero]
  refine wpAnyH_take (i := 4) (v := ?_) rfl (by kernel_rfl) (by kernel_rfl) (by kernel_rfl) (fun _ _ _ h => h) (Or.inl ⟨by rfl, ?_⟩) (by assumption) ?_
  rotate_left 1
  · (intro w' hSw; (try dsimp only at hSw); go_simp; try with_reducible rfl)
  try simp only [Act.put, List.setIfInBounds_toArray, List.set_cons_zero, List.set_cons_succ, List.getElem_toArray, List.getElem_cons_succ, List.getElem_cons_zero]
  refine wpAnyH_take (i := 5) (v := ?_) rfl (by kernel_rfl) (by kernel_rfl) (by kernel_rfl) (fun _ _ _ h => h) (Or.inl ⟨by rfl, ?_⟩) (by assumption) ?_
  rotate_left 1
  · (intro w' hSw; (try dsimp only at hSw); go_simp; try with_reducible rfl)
  try simp only [Act.put, List.setIfInBounds_toArray, List.set_cons_zero, List.set_cons_succ, List.getElem_toArray, List.getElem_cons_succ, List.getElem_cons_zero]
  refine wpAnyH_take (i := 6) (v := ?_) rfl (by kernel_rfl) (by kernel_rfl) (by kernel_rfl) (fun _ _ _ h => h) (Or.inl ⟨by rfl, ?_⟩) (by assumption) ?_
  rotate_left 1
  · (intro w' hSw; (try dsimp only at hSw); go_simp; try with_reducible rfl)
  try simp only [Act.put, List.setIfInBounds_toArray, List.set_cons_zero, List.set_cons_succ, List.getElem_toArray, List.getElem_cons_succ, List.getElem_cons_zero]
  refine wpAnyH_take (i := 7) (v := ?_) rfl (by kernel_rfl) (by kernel_rfl) (by kernel_rfl) (fun _ _ _ h => h) (Or.inl ⟨by rfl, ?_⟩) (by assumption) ?_
  rotate_left 1
  · (intro w' hSw; (try dsimp only at hSw); go_simp; try with_reducible rfl)
  try simp only [Act.put, List.setIfInBounds_toArray, List.set_cons_zero, List.set_cons_succ, List.getElem_toArray, List.getElem_cons_succ, List.getElem_cons_zero]
  refine wpAnyH_take (i := 8) (v := ?_) rfl (by kernel_rfl) (by kernel_rfl) (by kernel_rfl) (fun _ _ _ h => h) (Or.inl ⟨by rfl, ?_⟩) (by assumption) ?_
  rotate_left 1
  · (intro w' hSw; (try dsimp only at hSw); go_simp; try with_reducible rfl)
  try simp only [Act.put, List.setIfInBounds_toArray, List.set_cons_zero, List.set_cons_succ, List.getElem_toArray, List.getElem_cons_succ, List.getElem_cons_zero]
  refine wpAnyH_take (i := 9) (v := ?_) rfl (by kernel_rfl) (by kernel_rfl) (by kernel_rfl) (fun _ _ _ h => h) (Or.inl ⟨by rfl, ?_⟩) (by assumption) ?_
  rotate_left 1
  · (intro w' hSw; (try dsimp only at hSw); go_simp; try with_reducible rfl)
  try simp only [Act.put, List.setIfInBounds_toArray, List.set_cons_zero, List.set_cons_succ, List.getElem_toArray, List.getElem_cons_succ, List.getElem_cons_zero]
  refine wpAnyH_take (i := 10) (v := ?_) rfl (by kernel_rfl) (by kernel_rfl) (by kernel_rfl) (fun _ _ _ h => h) (Or.inl ⟨by rfl, ?_⟩) (by assumption) ?_
  rotate_left 1
  · (intro w' hSw; (try dsimp only at hSw); go_simp; try with_reducible rfl)
  try simp only [Act.put, List.setIfInBounds_toArray, List.set_cons_zero, List.set_cons_succ, List.getElem_toArray, List.getElem_cons_succ, List.getElem_cons_zero]
  refine wpAnyH_take (i := 11) (v := ?_) rfl (by kernel_rfl) (by kernel_rfl) (by kernel_rfl) (fun _ _ _ h => h) (Or.inl ⟨by rfl, ?_⟩) (by assumption) ?_
  rotate_left 1
  · (intro w' hSw; (try dsimp only at hSw); go_simp; try with_reducible rfl)
  try simp only [Act.put, List.setIfInBounds_toArray, List.set_cons_zero, List.set_cons_succ, List.getElem_toArray, List.getElem_cons_succ, List.getElem_cons_zero]
  refine wpAnyH_take (i := 12) (v := ?_) rfl (by kernel_rfl) (by kernel_rfl) (by kernel_rfl) (fun _ _ _ h => h) (Or.inl ⟨by rfl, ?_⟩) (by assumption) ?_
  rotate_left 1
  · (intro w' hSw; (try dsimp only at hSw); go_simp; try with_reducible rfl)
  try simp only [Act.put, List.setIfInBounds_toArray, List.set_cons_zero, List.set_cons_succ, List.getElem_toArray, List.getElem_cons_succ, List.getElem_cons_zero]
  refine wpAnyH_take (i := 13) (v := ?_) rfl (by kernel_rfl) (by kernel_rfl) (by kernel_rfl) (fun _ _ _ h => h) (Or.inl ⟨by rfl, ?_⟩) (by assumption) ?_
  rotate_left 1
  · (intro w' hSw; (try dsimp only at hSw); go_simp; try with_reducible rfl)
  try simp only [Act.put, List.setIfInBounds_toArray, List.set_cons_zero, List.set_cons_succ, List.getElem_toArray, List.getElem_cons_succ, List.getElem_cons_zero]
  refine wpAnyH_take (i := 14) (v := ?_) rfl (by kernel_rfl) (by kernel_rfl) (by kernel_rfl) (fun _ _ _ h => h) (Or.inl ⟨by rfl, ?_⟩) (by assumption) ?_
  rotate_left 1
  · (intro w' hSw; (try dsimp only at hSw); go_simp; try with_reducible rfl)
  try simp only [Act.put, List.setIfInBounds_toArray, List.set_cons_zero, List.set_cons_succ, List.getElem_toArray, List.getElem_cons_succ, List.getElem_cons_zero]
  refine wpAnyH_take (i := 15) (v := ?_) rfl (by kernel_rfl) (by kernel_rfl) (by kernel_rfl) (fun _ _ _ h => h) (Or.inl ⟨by rfl, ?_⟩) (by assumption) ?_
  rotate_left 1
  · (intro w' hSw; (try dsimp only at hSw); go_simp; try with_reducible rfl)
  try simp only [Act.put, List.setIfInBounds_toArray, List.set_cons_zero, List.set_cons_succ, List.getElem_toArray, List.getElem_cons_succ, List.getElem_cons_zero]
  refine wpAnyH_take (i := 16) (v := ?_) rfl (by kernel_rfl) (by kernel_rfl) (by kernel_rfl) (fun _ _ _ h => h) (Or.inl ⟨by rfl, ?_⟩) (by assumption) ?_
  rotate_left 1
  · (intro w' hSw; (try dsimp only at hSw); go_simp; try with_reducible rfl)
  try simp only [Act.put, List.setIfInBounds_toArray, List.set_cons_zero, List.set_cons_succ, List.getElem_toArray, List.getElem_cons_succ, List.getElem_cons_zero]
  refine wpAnyH_take (i := 17) (v := ?_) rfl (by kernel_rfl) (by kernel_rfl) (by kernel_rfl) (fun _ _ _ h => h) (Or.inl ⟨by rfl, ?_⟩) (by assumption) ?_
  rotate_left 1
  · (intro w' hSw; (try dsimp only at hSw); go_simp; try with_reducible rfl)
  try simp only [Act.put, List.setIfInBounds_toArray, List.set_cons_zero, List.set_cons_succ, List.getElem_toArray, List.getElem_cons_succ, List.getElem_cons_zero]
  refine wpAnyH_ready (rs := [18]) (by kernel_rfl) (by simp) (AllReadyH.cons rfl (fun Kr hKr => ?_) AllReadyH.nil)
  go_simp
  (refine (iQ_is h3 _).mono ?_; rintro e w3 ⟨rfl, e3⟩; replace e3 := e3.symm; subst e3)
  refine hKr.out _ _ (by assumption) (fun _ => ?_)
  try simp only [Act.put, List.setIfInBounds_toArray, List.set_cons_zero, List.set_cons_succ, List.getElem_toArray, List.getElem_cons_succ, List.getElem_cons_zero]
  refine wpAnyH_take (i := 19) (v := ?_) rfl (by kernel_rfl) (by kernel_rfl) (by kernel_rfl) (fun _ _ _ h => h) (Or.inl ⟨by rfl, ?_⟩) (by assumption) ?_
  rotate_left 1
  · (intro w' hSw; (try dsimp only at hSw); go_simp; try with_reducible rfl)
  try simp only [Act.put, List.setIfInBounds_toArray, List.set_cons_zero, List.set_cons_succ, List.getElem_toArray, List.getElem_cons_succ, List.getElem_cons_zero]
  refine wpAnyH_take (i := 20) (v := ?_) rfl (by kernel_rfl) (by kernel_rfl) (by kernel_rfl) (fun _ _ _ h => h) (Or.inl ⟨by rfl, ?_⟩) (by assumption) ?_
  rotate_left 1
  · (intro w' hSw; (try dsimp only at hSw); go_simp; try with_reducible rfl)
  try simp only [Act.put, List.setIfInBounds_toArray, List.set_cons_zero, List.set_cons_succ, List.getElem_toArray, List.getElem_cons_succ, List.getElem_cons_zero]
  refine wpAnyH_done (by kernel_rfl) ?_ _
  have L5 := L0.next hb5
  have b5 := below_two nb hb5
  clear hS5 HS L0 nb hb5 qA h0O h0O'
  have zv := L5.lt
  have f0 : w5.cell? ⟨w.heap.size, 0, none⟩ = some (.int .i64 A) := L5.cell 0 _ rfl
  have f1 : w5.cell? ⟨w.heap.size, 1, none⟩ = some (.slice aT T.length cT) := L5.cell 1 _ rfl
  have f2 : w5.cell? ⟨w.heap.size, 2, none⟩ = some (.slice (some ⟨bo, oo, none⟩) O.length cO) := L5.cell 2 _ rfl
  have f3 : w5.cell? ⟨w.heap.size, 3, none⟩ = some (.slice aP P.length cP) := L5.cell 3 _ rfl
  have f4 : w5.cell? ⟨w.heap.size, 4, none⟩ = some (.slice aL L.length cL) := L5.cell 4 _ rfl
  have f5 : w5.cell? ⟨w.heap.size, 5, none⟩ = some (.slice aK K.length cK) := L5.cell 5 _ rfl
  have f6 : w5.cell? ⟨w.heap.size, 6, none⟩ = some (.int .i64 nx) := L5.cell 6 _ rfl
  cases h4 : inQ 1 (L.length : Int) 10
  · have HE : Hid (engB A nx T O P L K = false) := eg_false (fun h => by have q0 := h.l0; have q1 := h.l1; unfold inQ at h4; simp only [Bool.and_eq_false_iff, decide_eq_false_iff_not] at h4; omega)
    go_wp2_with (first | (go_at_call 30; refine (iQ_is h4 _).mono ?_; rintro e w3 ⟨rfl, e3⟩; replace e3 := e3.symm; subst e3))
    go_ret
    exact ⟨retC HE.out.symm, b5⟩
  have hL10 : 1 ≤ L.length ∧ L.length ≤ 10 := by
    unfold inQ at h4
    simp only [Bool.and_eq_true, decide_eq_true_eq] at h4
    omega
  by_cases h5 : 40 < (K.length : Int)
  · have HE : Hid (engB A nx T O P L K = false) := eg_false (fun h => by have q := h.k1; omega)
    go_wp2_with (first | (go_at_call 30; refine (iQ_is h4 _).mono ?_; rintro e w3 ⟨rfl, e3⟩; replace e3 := e3.symm; subst e3))
    go_ret
    exact ⟨retC HE.out.symm, b5⟩
  have nK : K.length ≤ 40 := by omega
  obtain ⟨ys, hy⟩ : ∃ ys, idsK K = ys := ⟨_, rfl⟩
  have HYY : Hid (idsK K = ys) := hy
  have hy5 : ys.length ≤ 50 := by rw [← hy, idsK_length]; omega
  have hids : Hid (Calls Try.prog 32 #[.slice aK K.length cK] w5 fun e w' => ∃ ui ci, e = .returned (.slice ui ys.length ci) ∧ ISmp w'.heap.size w' ui ys ∧ Below w5.heap.size w5 w') := by
    have q := idsOf_any cK (hK.here b5) mK
    rw [hy] at q
    have e : (fun (e : Ending) (w' : World) => ∃ u c, e = .returned (.slice u K.length c) ∧ ISmp w'.heap.size w' u ys ∧ Below w5.heap.size w5 w') = (fun e w' => ∃ u c, e = .returned (.slice u ys.length c) ∧ ISmp w'.heap.size w' u ys ∧ Below w5.heap.size w5 w') := by rw [← hy, idsK_length]
    rw [e] at q
    exact q
  clear hy
  cases h6 : risB ys
  · have HE : Hid (engB A nx T O P L K = false) := eg_false (fun h => by have q := eg_mem h; rw [HYY.out] at q; exact ris_no h6 q)
    go_wp2_with (first | (go_at_call 30; refine (iQ_is h4 _).mono ?_; rintro e w3 ⟨rfl, e3⟩; replace e3 := e3.symm; subst e3) | (go_at_call 32; refine (hids.out).mono ?_; rintro e w6 ⟨ui, ci, rfl, smi, hb6⟩; have L6 := L5.next hb6; have b6 := below_two b5 hb6; clear f0 f1 f2 f3 f4 f5 f6; have f0 : w6.cell? ⟨w.heap.size, 0, none⟩ = some (.int .i64 A) := L6.cell 0 _ rfl; have f1 : w6.cell? ⟨w.heap.size, 1, none⟩ = some (.slice aT T.length cT) := L6.cell 1 _ rfl; have f2 : w6.cell? ⟨w.heap.size, 2, none⟩ = some (.slice (some ⟨bo, oo, none⟩) O.length cO) := L6.cell 2 _ rfl; have f3 : w6.cell? ⟨w.heap.size, 3, none⟩ = some (.slice aP P.length cP) := L6.cell 3 _ rfl; have f4 : w6.cell? ⟨w.heap.size, 4, none⟩ = some (.slice aL L.length cL) := L6.cell 4 _ rfl; have f5 : w6.cell? ⟨w.heap.size, 5, none⟩ = some (.slice aK K.length cK) := L6.cell 5 _ rfl; have f6 : w6.cell? ⟨w.heap.size, 6, none⟩ = some (.int .i64 nx) := L6.cell 6 _ rfl) | (go_at_call 31; refine (rising_is ci h6 hy5 smi).mono ?_; rintro e w3 ⟨rfl, e3⟩; replace e3 := e3.symm; subst e3))
    go_ret
    exact ⟨retC HE.out.symm, b6⟩
  cases h7 : K.all (mayB T L.length)
  · have HE : Hid (engB A nx T O P L K = false) := eg_false (fun h => by have q := eg_may h; rw [h7] at q; cases q)
    go_wp2_with (first | (go_at_call 30; refine (iQ_is h4 _).mono ?_; rintro e w3 ⟨rfl, e3⟩; replace e3 := e3.symm; subst e3) | (go_at_call 32; refine (hids.out).mono ?_; rintro e w6 ⟨ui, ci, rfl, smi, hb6⟩; have L6 := L5.next hb6; have b6 := below_two b5 hb6; clear f0 f1 f2 f3 f4 f5 f6; have f0 : w6.cell? ⟨w.heap.size, 0, none⟩ = some (.int .i64 A) := L6.cell 0 _ rfl; have f1 : w6.cell? ⟨w.heap.size, 1, none⟩ = some (.slice aT T.length cT) := L6.cell 1 _ rfl; have f2 : w6.cell? ⟨w.heap.size, 2, none⟩ = some (.slice (some ⟨bo, oo, none⟩) O.length cO) := L6.cell 2 _ rfl; have f3 : w6.cell? ⟨w.heap.size, 3, none⟩ = some (.slice aP P.length cP) := L6.cell 3 _ rfl; have f4 : w6.cell? ⟨w.heap.size, 4, none⟩ = some (.slice aL L.length cL) := L6.cell 4 _ rfl; have f5 : w6.cell? ⟨w.heap.size, 5, none⟩ = some (.slice aK K.length cK) := L6.cell 5 _ rfl; have f6 : w6.cell? ⟨w.heap.size, 6, none⟩ = some (.int .i64 nx) := L6.cell 6 _ rfl) | (go_at_call 31; refine (rising_is ci h6 hy5 smi).mono ?_; rintro e w3 ⟨rfl, e3⟩; replace e3 := e3.symm; subst e3) | (go_at_call 33; refine (hasM_is cK h7 L6 (hT.here b6) hl30 mL (hK.here b6) nK sK).mono ?_; rintro e w7 ⟨rfl, hb7⟩; have L7 := L6.next hb7; have b7 := below_two b6 hb7; clear f0 f1 f2 f3 f4 f5 f6; have f0 : w7.cell? ⟨w.heap.size, 0, none⟩ = some (.int .i64 A) := L7.cell 0 _ rfl; have f1 : w7.cell? ⟨w.heap.size, 1, none⟩ = some (.slice aT T.length cT) := L7.cell 1 _ rfl; have f2 : w7.cell? ⟨w.heap.size, 2, none⟩ = some (.slice (some ⟨bo, oo, none⟩) O.length cO) := L7.cell 2 _ rfl; have f3 : w7.cell? ⟨w.heap.size, 3, none⟩ = some (.slice aP P.length cP) := L7.cell 3 _ rfl; have f4 : w7.cell? ⟨w.heap.size, 4, none⟩ = some (.slice aL L.length cL) := L7.cell 4 _ rfl; have f5 : w7.cell? ⟨w.heap.size, 5, none⟩ = some (.slice aK K.length cK) := L7.cell 5 _ rfl; have f6 : w7.cell? ⟨w.heap.size, 6, none⟩ = some (.int .i64 nx) := L7.cell 6 _ rfl))
    go_ret
    exact ⟨retC HE.out.symm, b7⟩
  have HFL : Hid (∀ c ∈ K, 0 ≤ c.fl ∧ c.fl ≤ 1000000000) := may_fl h7
  have hLi : (L.length : Int) ≤ 10 := by omega
  go_wp2_with (first | (go_at_call 30; refine (iQ_is h4 _).mono ?_; rintro e w3 ⟨rfl, e3⟩; replace e3 := e3.symm; subst e3) | (go_at_call 32; refine (hids.out).mono ?_; rintro e w6 ⟨ui, ci, rfl, smi, hb6⟩; have L6 := L5.next hb6; have b6 := below_two b5 hb6; clear f0 f1 f2 f3 f4 f5 f6; have f0 : w6.cell? ⟨w.heap.size, 0, none⟩ = some (.int .i64 A) := L6.cell 0 _ rfl; have f1 : w6.cell? ⟨w.heap.size, 1, none⟩ = some (.slice aT T.length cT) := L6.cell 1 _ rfl; have f2 : w6.cell? ⟨w.heap.size, 2, none⟩ = some (.slice (some ⟨bo, oo, none⟩) O.length cO) := L6.cell 2 _ rfl; have f3 : w6.cell? ⟨w.heap.size, 3, none⟩ = some (.slice aP P.length cP) := L6.cell 3 _ rfl; have f4 : w6.cell? ⟨w.heap.size, 4, none⟩ = some (.slice aL L.length cL) := L6.cell 4 _ rfl; have f5 : w6.cell? ⟨w.heap.size, 5, none⟩ = some (.slice aK K.length cK) := L6.cell 5 _ rfl; have f6 : w6.cell? ⟨w.heap.size, 6, none⟩ = some (.int .i64 nx) := L6.cell 6 _ rfl) | (go_at_call 31; refine (rising_is ci h6 hy5 smi).mono ?_; rintro e w3 ⟨rfl, e3⟩; replace e3 := e3.symm; subst e3) | (go_at_call 33; refine (hasM_is cK h7 L6 (hT.here b6) hl30 mL (hK.here b6) nK sK).mono ?_; rintro e w7 ⟨rfl, hb7⟩; have L7 := L6.next hb7; have b7 := below_two b6 hb7; clear f0 f1 f2 f3 f4 f5 f6; have f0 : w7.cell? ⟨w.heap.size, 0, none⟩ = some (.int .i64 A) := L7.cell 0 _ rfl; have f1 : w7.cell? ⟨w.heap.size, 1, none⟩ = some (.slice aT T.length cT) := L7.cell 1 _ rfl; have f2 : w7.cell? ⟨w.heap.size, 2, none⟩ = some (.slice (some ⟨bo, oo, none⟩) O.length cO) := L7.cell 2 _ rfl; have f3 : w7.cell? ⟨w.heap.size, 3, none⟩ = some (.slice aP P.length cP) := L7.cell 3 _ rfl; have f4 : w7.cell? ⟨w.heap.size, 4, none⟩ = some (.slice aL L.length cL) := L7.cell 4 _ rfl; have f5 : w7.cell? ⟨w.heap.size, 5, none⟩ = some (.slice aK K.length cK) := L7.cell 5 _ rfl; have f6 : w7.cell? ⟨w.heap.size, 6, none⟩ = some (.int .i64 nx) := L7.cell 6 _ rfl))
  clear f0 f1 f2 f3 f4 f5 f6
  go_loopw [50] (fun s wr => ∃ p : Nat, s = .int .i64 p ∧ p ≤ L.length ∧ Hid (∀ q (h : q < L.length), q < p → plR L[q].1 L[q].2.1 L[q].2.2 K q) ∧ Below w7.heap.size w7 wr) (fun s _ => L.length - (intOf s).toNat)
  case atStart => exact ⟨0, rfl, by omega, (fun q h k => by omega), Below.refl _ _⟩
  case round =>
    obtain ⟨p, rfl, hp, HP, hbr⟩ := hrel
    have LR := L7.next hbr
    have br := below_two b7 hbr
    have f0 : wr.cell? ⟨w.heap.size, 0, none⟩ = some (.int .i64 A) := LR.cell 0 _ rfl
    have f1 : wr.cell? ⟨w.heap.size, 1, none⟩ = some (.slice aT T.length cT) := LR.cell 1 _ rfl
    have f2 : wr.cell? ⟨w.heap.size, 2, none⟩ = some (.slice (some ⟨bo, oo, none⟩) O.length cO) := LR.cell 2 _ rfl
    have f3 : wr.cell? ⟨w.heap.size, 3, none⟩ = some (.slice aP P.length cP) := LR.cell 3 _ rfl
    have f4 : wr.cell? ⟨w.heap.size, 4, none⟩ = some (.slice aL L.length cL) := LR.cell 4 _ rfl
    have f5 : wr.cell? ⟨w.heap.size, 5, none⟩ = some (.slice aK K.length cK) := LR.cell 5 _ rfl
    have f6 : wr.cell? ⟨w.heap.size, 6, none⟩ = some (.int .i64 nx) := LR.cell 6 _ rfl
    by_cases hlt : p < L.length
    · have hlt' : (p : Int) < (L.length : Int) := by omega
      obtain ⟨wd, fl, xs, hx⟩ : ∃ wd fl xs, L[p] = (wd, fl, xs) := ⟨_, _, _, rfl⟩
      have HX : Hid (L[p] = (wd, fl, xs)) := hx
      have hxl : xs.length ≤ 1048576 := by have q := sL L[p] (List.getElem_mem hlt); rw [hx] at q; exact q
      clear hx
      cases h8 : plRB wd fl xs K p
      · have HE : Hid (engB A nx T O P L K = false) := eg_false (fun h => by have q := h.pl p hlt; rw [HX.out] at q; exact plr_no h8 q)
        go_wp2_with (first | (go_at_call 36; refine (plRight_is h8 hlt HX.out (hL.here br) (hK.here br) hL10.2 nK hxl HFL.out).mono ?_; rintro e w8 ⟨rfl, hb8⟩))
        go_ret
        exact ⟨retC HE.out.symm, below_two br hb8⟩
      · have HP2 : Hid (∀ q (h : q < L.length), q < p + 1 → plR L[q].1 L[q].2.1 L[q].2.2 K q) := fun q hq hqp => by
          by_cases e : q = p
          · subst e
            rw [HX.out]
            exact plr_yes h8
          · exact HP.out q hq (by omega)
        go_wp2_with (first | (go_at_call 36; refine (plRight_is h8 hlt HX.out (hL.here br) (hK.here br) hL10.2 nK hxl HFL.out).mono ?_; rintro e w8 ⟨rfl, hb8⟩))
        go_roundw
        case rel => exact ⟨p + 1, by go_num, by omega, HP2, below_two hbr hb8⟩
        case measure => first | (simp [intOf]; done) | (simp [intOf]; omega)
    · have e : p = L.length := by omega
      subst e
      have HE : Hid (engB A nx T O P L K = true) := eg_true (eg_of h1 HA.out h3 hL10.1 hL10.2 nK (by rw [HYY.out]; exact ris_yes h6) h7 (fun q hq => HP.out q hq hq))
      go_wp2
      go_ret
      exact ⟨retC HE.out.symm, br⟩
theorem implEngineOk_any {w : World} (now nx : Int) {aT aO aP aL aK : Option Addr} (cT cO cP cL cK : Nat) {T O P : List Q4} {L : List F8} {K : List Kn} (hT : Quad w.heap.size w aT T) (hO : Quad w.heap.size w aO O) (hP : Quad w.heap.size w aP P) (hL : Fls w.heap.size w aL L) (hK : Kls w.heap.size w aK K) (mL : L.length ≤ 1048576) (sL : ∀ f ∈ L, f.2.2.length ≤ 1048576) (mK : K.length ≤ 1048576) (sK : ∀ c ∈ K, c.xs.length ≤ maxLen) :
    Calls Try.prog 8 #[engV now aT T.length cT aO O.length cO aP P.length cP aL L.length cL aK K.length cK nx] w fun e w' => e = .returned (.bool (engB now nx T O P L K)) ∧ Below w.heap.size w w' := by
  cases h1 : lendB T O P
  · exact implEng_no1 now nx cT cO cP cL cK hT hO hP hL hK mL sL mK sK h1
  by_cases h2 : atOf O = now
  rotate_left
  · exact implEng_no2 now nx cT cO cP cL cK hT hO hP hL hK mL sL mK sK h1 h2
  cases h3 : inQ 0 nx 1000001
  · exact implEng_no3 now nx cT cO cP cL cK hT hO hP hL hK mL sL mK sK h1 h2 h3
  exact implEng_go now nx cT cO cP cL cK hT hO hP hL hK mL sL mK sK h1 h2 h3
theorem implEngineOk_is {w : World} {now nx : Int} {aT aO aP aL aK : Option Addr} (cT cO cP cL cK : Nat) {T O P : List Q4} {L : List F8} {K : List Kn} {f : Bool} (hf : engB now nx T O P L K = f) (hT : Quad w.heap.size w aT T) (hO : Quad w.heap.size w aO O) (hP : Quad w.heap.size w aP P) (hL : Fls w.heap.size w aL L) (hK : Kls w.heap.size w aK K) (mL : L.length ≤ 1048576) (sL : ∀ f ∈ L, f.2.2.length ≤ 1048576) (mK : K.length ≤ 1048576) (sK : ∀ c ∈ K, c.xs.length ≤ maxLen) :
    Calls Try.prog 8 #[engV now aT T.length cT aO O.length cO aP P.length cP aL L.length cL aK K.length cK nx] w fun e w' => e = .returned (.bool (f)) ∧ Below w.heap.size w w' := by subst hf; exact implEngineOk_any now nx cT cO cP cL cK hT hO hP hL hK mL sL mK sK
end Go.Proofs.Ytibfclfidaofkas
