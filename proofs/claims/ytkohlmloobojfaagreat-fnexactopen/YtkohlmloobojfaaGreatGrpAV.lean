/- Lemmas on the way, of several texts: OpnLaw, ImplPlRight. -/
import Derived.Test.YtkohlmloobojfaaGreatGrpAR
import Derived.Test.YtkohlmloobojfaaGreatGrpAU
import Derived.Test.YtkohlmloobojfaaGreatGrpAK
import Derived.Test.YtkohlmloobojfaaGreatGrpAB
import Derived.Deep.CutRange
import Derived.Deep.CutBlock
namespace Go.Proofs.YtkohlmloobojfaaGreat
open Go.ChangeShapes Go.WideShapes Go.ChangeAt Go.RowKit
set_option maxRecDepth 100000
set_option linter.unusedVariables false
set_option linter.unusedSimpArgs false
theorem kind_con {k : Int} (h : conK k = true) : kindB k = true := by
  unfold conK at h
  unfold kindB
  simp only [Bool.or_eq_true, decide_eq_true_eq] at h
  simp only [Bool.and_eq_true, decide_eq_true_eq]
  omega
section
variable {w : World} {lo hi g cap : Nat} {sT sO sP vK : Value} {uL uK : List Value} {T O P : List Q4} {L : List F8} {K : List Kn}
theorem EOwn.capP {p : Nat} (h : EOwn w lo hi sT sO sP (.slice (some ⟨g, 0, none⟩) L.length cap) uL vK uK T O P L K) (hp : p < L.length) {a : Option Addr} {n c : Nat} (hu : uL[p]? = some (.slice a n c)) : L[p].2.2.length ≤ c := by
  obtain ⟨_, fo, hl⟩ := h.fo (by omega)
  have hi2 : p < uL.length := by omega
  obtain ⟨a', c', e, hc, s⟩ := (fo.own p hp hi2).smp
  rw [List.getElem?_eq_getElem hi2, e] at hu
  injection hu with hu
  injection hu with _ _ e3
  omega
end
theorem eqI_is {w : World} {a b : Option Addr} (ca cb : Nat) {xs ys : List Int} {f : Bool} (hf : decide (xs = ys) = f) (h : ISmp w.heap.size w a xs) (h' : ISmp w.heap.size w b ys) (hl : xs.length ≤ 1048576) (hl' : ys.length ≤ 1048576) :
    Calls Tryz.prog 144 #[.slice a xs.length ca, .slice b ys.length cb] w fun e w' => e = .returned (.bool f) ∧ Below w.heap.size w w' := by subst hf; exact sEqual_any ca cb h h' hl hl'
def plR (wd fl : Int) (xs : List Int) (K : List Kn) (p : Int) : Prop := plB wd fl xs = true ∧ fl = flK (atP K p) ∧ xs = idsK (atP K p)
open Classical in
noncomputable def plRB (wd fl : Int) (xs : List Int) (K : List Kn) (p : Int) : Bool := decide (plR wd fl xs K p)
open Classical in
theorem plr_false {wd fl : Int} {xs : List Int} {K : List Kn} {p : Int} (h : ¬ plR wd fl xs K p) : plRB wd fl xs K p = false := by unfold plRB; exact decide_eq_false h
open Classical in
theorem plr_true {wd fl : Int} {xs : List Int} {K : List Kn} {p : Int} (h : plR wd fl xs K p) : plRB wd fl xs K p = true := by unfold plRB; exact decide_eq_true h
open Classical in
theorem plr_yes {wd fl : Int} {xs : List Int} {K : List Kn} {p : Int} (h : plRB wd fl xs K p = true) : plR wd fl xs K p := by unfold plRB at h; exact of_decide_eq_true h
open Classical in
theorem plr_no {wd fl : Int} {xs : List Int} {K : List Kn} {p : Int} (h : plRB wd fl xs K p = false) : ¬ plR wd fl xs K p := by unfold plRB at h; exact of_decide_eq_false h
set_option maxHeartbeats 8000000 in
theorem plRight_any {w : World} (now nx : Int) {aT aO aP aL aK : Option Addr} {nT cT nO cO nP cP cL cK : Nat} {L : List F8} {K : List Kn} {p : Nat} {wd fl : Int} {xs : List Int} (hp : p < L.length) (hx : L[p] = (wd, fl, xs)) (hL : Fls w.heap.size w aL L) (hK : Kls w.heap.size w aK K) (nL : L.length ≤ 10) (nK : K.length ≤ 40) (xl : xs.length ≤ 1048576) (hfl : ∀ c ∈ K, 0 ≤ c.fl ∧ c.fl ≤ 1000000000) :
    Calls Tryz.prog 83 #[engV now aT nT cT aO nO cO aP nP cP aL L.length cL aK K.length cK nx, .int .i64 p] w fun e w' => e = .returned (.bool (plRB wd fl xs K p)) ∧ Below w.heap.size w w' := by
  have hpi : (p : Int) < (L.length : Int) := by omega
  have hLi : (L.length : Int) ≤ 10 := by omega
  obtain ⟨b, off, sa, sc, hal, hbl, d0, d1, d2, sm⟩ := hL p hp
  subst hal
  rw [hx] at d0 d1 d2 sm
  simp only at d0 d1 d2 sm
  clear hx
  obtain ⟨v, hv⟩ : ∃ v, v = w.alloc (.cells #[.int .i64 now, .slice aT nT cT, .slice aO nO cO, .slice aP nP cP, .slice (some ⟨b, off, none⟩) L.length cL, .slice aK K.length cK, .int .i64 nx] 38) := ⟨_, rfl⟩
  have nb : Below w.heap.size w v := by rw [hv]; go_grown
  have L0 : Lay v w.heap.size [.int .i64 now, .slice aT nT cT, .slice aO nO cO, .slice aP nP cP, .slice (some ⟨b, off, none⟩) L.length cL, .slice aK K.length cK, .int .i64 nx] := by rw [hv]; exact lay_new [.int .i64 now, .slice aT nT cT, .slice aO nO cO, .slice aP nP cP, .slice (some ⟨b, off, none⟩) L.length cL, .slice aK K.length cK, .int .i64 nx] _ rfl
  go_enter Tryz.func83, Tryz.ntmps83
  go_upto_region 1 with (fail)
  rw [← hv]
  clear hv
  have HS : Hid (∀ x, Below v.heap.size v x → x.cell? ⟨w.heap.size, 4, none⟩ = some (.slice (some ⟨b, off, none⟩) L.length cL) ∧ x.cell? ⟨w.heap.size, 5, none⟩ = some (.slice aK K.length cK) ∧ x.cell? ⟨b, off + p * 3, none⟩ = some (.int .i64 wd) ∧ x.cell? ⟨b, off + p * 3 + 1, none⟩ = some (.int .i64 fl) ∧ x.cell? ⟨b, off + p * 3 + 2, none⟩ = some (.slice sa xs.length sc)) := fun x hx => ⟨(L0.next hx).cell 4 _ rfl, (L0.next hx).cell 5 _ rfl, (hx.cell (by exact Nat.lt_of_lt_of_le hbl nb.size)).trans ((nb.cell (by exact hbl)).trans d0), (hx.cell (by exact Nat.lt_of_lt_of_le hbl nb.size)).trans ((nb.cell (by exact hbl)).trans d1), (hx.cell (by exact Nat.lt_of_lt_of_le hbl nb.size)).trans ((nb.cell (by exact hbl)).trans d2)⟩
  go_cut [5, 6] from 7 to 15 (fun s5 s6 x => ∃ g u cu, s5 = .pointer (some ⟨g, 0, none⟩) ∧ s6 = .slice u (atP K p).length cu ∧ Lay x g [.int .i64 wd, .int .i64 fl, .slice sa xs.length sc] ∧ Kls x.heap.size x u (atP K p) ∧ Below v.heap.size v x)
  case first =>
    refine wp_region_held_drew (S := fun w' => w'.cell? ⟨w.heap.size, 4, none⟩ = some (.slice (some ⟨b, off, none⟩) L.length cL) ∧ w'.cell? ⟨w.heap.size, 5, none⟩ = some (.slice aK K.length cK) ∧ w'.cell? ⟨b, off + p * 3, none⟩ = some (.int .i64 wd) ∧ w'.cell? ⟨b, off + p * 3 + 1, none⟩ = some (.int .i64 fl) ∧ w'.cell? ⟨b, off + p * 3 + 2, none⟩ = some (.slice sa xs.length sc)) (by kernel_rfl) (HS.out _ (Below.refl _ _).drew) (fun hS => ?_)
    refine anyR 0 rfl ?_
    refine anyR 1 rfl ?_
    refine anyR 2 rfl ?_
    refine anyR 3 rfl ?_
    refine anyR 4 rfl ?_
    refine anyR 5 rfl ?_
    refine anyR 6 rfl ?_
    refine anyR 7 rfl ?_
    refine wpAnyH_ready (rs := [8, 9]) (by kernel_rfl) (by simp) (AllReadyH.cons rfl (fun Kr hKr => ?_) (AllReadyH.cons rfl (fun Kr hKr => ?_) AllReadyH.nil))
    · go_simp
      (refine (connsTo_any cK (p : Int) (hK.mono nb.drew) nb.size nK).mono ?_; rintro e u1 ⟨u, cu, rfl, hk1, hb1⟩; have hb1 := undrewE hb1; have hS1 := HS.out _ hb1)
      refine hKr.out _ _ (by assumption) (fun _ => ?_)
      try simp only [nrm]
      refine wpAnyH_ready (rs := [9]) (by kernel_rfl) (by simp) (AllReadyH.cons rfl (fun Kr hKr => ?_) AllReadyH.nil)
      go_simp
      refine hKr.out _ _ (HS.out _ (below_two hb1 (new_below _ _))) (fun hS => ?_)
      try simp only [nrm]
      refine wpAnyH_ready (rs := [10]) (by kernel_rfl) (by simp) (AllReadyH.cons rfl (fun Kr hKr => ?_) AllReadyH.nil)
      go_simp
      refine hKr.out _ _ (HS.out _ (below_two hb1 (new_below _ _))) (fun hS => ?_)
      try simp only [nrm]
      refine anyR 11 rfl ?_
      refine wpAnyH_done (by kernel_rfl) ?_ _
      repeat go_step
      go_meet
      exact ⟨u1.heap.size, u, cu, rfl, rfl, lay_new [.int .i64 wd, .int .i64 fl, .slice sa xs.length sc] _ rfl, (hk1.kls (Nat.le_trans nb.size hb1.size)).here (new_below _ _), below_two hb1 (new_below _ _)⟩
    · go_simp
      refine hKr.out _ _ (HS.out _ (((Below.refl _ v).drew).alloc (Nat.le_refl _) _)) (fun hS => ?_)
      try simp only [nrm]
      refine wpAnyH_ready (rs := [8]) (by kernel_rfl) (by simp) (AllReadyH.cons rfl (fun Kr hKr => ?_) AllReadyH.nil)
      go_simp
      (refine (connsTo_any cK (p : Int) (hK.mono (nb.drew.alloc nb.size _)) (by have := nb.size; simp; omega) nK).mono ?_; rintro e u1 ⟨u, cu, rfl, hk1, hb1⟩; have Y1 := (lay_new (u := v.drew) [.int .i64 0, .int .i64 0, .slice none 0 0] 58 rfl).next hb1; obtain ⟨q0, q1, q2⟩ := Lay.c3 (b := v.heap.size) Y1; have qf : ∀ o : Nat, u1.frozen? ⟨v.heap.size, o, none⟩ = false := Y1.free; have Y1 : Lay u1 v.heap.size [.int .i64 0, .int .i64 0, .slice none 0 0] := Y1; have hbv : Below v.heap.size v u1 := below_two (((Below.refl _ v).drew).alloc (Nat.le_refl _) _) hb1; have hS1 := HS.out _ hbv)
      refine hKr.out _ _ (by assumption) (fun _ => ?_)
      try simp only [nrm]
      refine wpAnyH_ready (rs := [10]) (by kernel_rfl) (by simp) (AllReadyH.cons rfl (fun Kr hKr => ?_) AllReadyH.nil)
      go_simp
      obtain ⟨yF, hyF⟩ : ∃ y, y = u1.setCells v.heap.size 0 [.int .i64 wd, .int .i64 fl, .slice sa xs.length sc] := ⟨_, rfl⟩
      have hyF' : (((u1.setCell ⟨v.heap.size, 0, none⟩ (.int .i64 wd)).setCell ⟨v.heap.size, 1, none⟩ (.int .i64 fl)).setCell ⟨v.heap.size, 2, none⟩ (.slice sa xs.length sc)) = yF := hyF.symm
      rw [hyF']
      have oF : Only v.heap.size u1 yF := by rw [hyF]; exact onlyCells _ _ _
      have YF : Lay yF v.heap.size [.int .i64 wd, .int .i64 fl, .slice sa xs.length sc] := by rw [hyF]; exact Y1.put (p := []) (q := [.int .i64 0, .int .i64 0, .slice none 0 0]) (r := []) [.int .i64 wd, .int .i64 fl, .slice sa xs.length sc] rfl
      have bF : Below v.heap.size v yF := hbv.trans (oF.below (Nat.le_refl _) hbv.size)
      have kF : Kls yF.heap.size yF u (atP K p) := (hk1.only oF nb.size (by simp) (Nat.le_trans nb.size hbv.size)).kls (Nat.le_trans nb.size bF.size)
      clear hyF hyF'
      refine hKr.out _ _ (HS.out _ bF) (fun hS => ?_)
      try simp only [nrm]
      refine anyR 11 rfl ?_
      refine wpAnyH_done (by kernel_rfl) ?_ _
      repeat go_step
      go_meet
      exact ⟨v.heap.size, u, cu, rfl, rfl, YF, kF, bF⟩
  case rest =>
  obtain ⟨g, u, cu, rfl, rfl, LX, kx, bvx⟩ := hcut
  clear HS
  have zvx := bvx.size
  have bwx := below_two nb bvx
  have smx : ISmp wc.heap.size wc sa xs := sm.here bwx
  have hcl : (atP K p).length ≤ 40 := Nat.le_trans (atP_le K p) nK
  obtain ⟨s, hs⟩ : ∃ s, flK (atP K p) = s := ⟨_, rfl⟩
  obtain ⟨ys, hy⟩ : ∃ ys, idsK (atP K p) = ys := ⟨_, rfl⟩
  have HSS : Hid (flK (atP K p) = s) := hs
  have HYY : Hid (idsK (atP K p) = ys) := hy
  have hy5 : ys.length ≤ 1048576 := by rw [← hy, idsK_length]; omega
  have hx5 := xl
  have hfo : Hid (∀ z, Below wc.heap.size wc z → Calls Tryz.prog 143 #[.slice u (atP K p).length cu] z fun e w' => e = .returned (.int .i64 s) ∧ Below z.heap.size z w') := fun z hz => by
    have q := flightOf_any cu (kx.here hz) hcl (fun c hc => hfl c (List.mem_filter.1 hc).1)
    rw [HSS.out] at q
    exact q
  have hio : Hid (∀ z, Below wc.heap.size wc z → Calls Tryz.prog 79 #[.slice u (atP K p).length cu] z fun e w' => ∃ ui ci, e = .returned (.slice ui ys.length ci) ∧ ISmp w'.heap.size w' ui ys ∧ Below z.heap.size z w') := fun z hz => by
    have q := idsOf_any cu (kx.here hz) (by omega)
    rw [HYY.out, show (atP K p).length = ys.length by rw [← HYY.out, idsK_length]] at q
    rw [show (atP K p).length = ys.length by rw [← HYY.out, idsK_length]]
    exact q
  clear hs hy
  cases h1 : plB wd fl xs
  · have HC : Hid (plRB wd fl xs K p = false) := plr_false (fun h => by have q := h.1; rw [h1] at q; cases q)
    have HS : Hid (∀ x, Below wc.heap.size wc x → x.cell? ⟨g, 0, none⟩ = some (.int .i64 wd) ∧ x.cell? ⟨g, 1, none⟩ = some (.int .i64 fl) ∧ x.cell? ⟨g, 2, none⟩ = some (.slice sa xs.length sc)) := fun x hx => ⟨(LX.next hx).cell 0 _ rfl, (LX.next hx).cell 1 _ rfl, (LX.next hx).cell 2 _ rfl⟩
    go_upto_region 2 with (fail)
    refine wp_region_held_drew (S := fun w' => w'.cell? ⟨g, 0, none⟩ = some (.int .i64 wd) ∧ w'.cell? ⟨g, 1, none⟩ = some (.int .i64 fl) ∧ w'.cell? ⟨g, 2, none⟩ = some (.slice sa xs.length sc)) (by kernel_rfl) (HS.out _ (Below.refl _ _).drew) (fun hS => ?_)
    refine anyR 0 rfl ?_
    refine wpAnyH_ready (rs := [1]) (by kernel_rfl) (by simp) (AllReadyH.cons rfl (fun Kr hKr => ?_) AllReadyH.nil)
    go_simp
    (refine (implPlaceOk_is sc h1 (smx.here ((Below.refl _ _).drew))).mono ?_; rintro e w5 ⟨rfl, hb5⟩; have hb5 := undrewE hb5; have hS5 := HS.out _ hb5)
    refine hKr.out _ _ (by assumption) (fun _ => ?_)
    try simp only [nrm]
    refine anyR 2 rfl ?_
    refine anyS 3 rfl ?_
    refine anyS 4 rfl ?_
    refine anyS 5 rfl ?_
    refine anyS 6 rfl ?_
    refine anyS 7 rfl ?_
    refine anyR 8 rfl ?_
    refine anyR 9 rfl ?_
    refine anyS 10 rfl ?_
    refine anyS 11 rfl ?_
    refine anyS 12 rfl ?_
    refine anyS 13 rfl ?_
    refine anyS 14 rfl ?_
    refine anyR 15 rfl ?_
    refine anyR 16 rfl ?_
    refine wpAnyH_done (by kernel_rfl) ?_ _
    go_wp2
    go_ret
    exact ⟨retC HC.out.symm, below_two bwx hb5⟩
  by_cases h2 : fl = s
  rotate_left
  · have HC : Hid (plRB wd fl xs K p = false) := plr_false (fun h => h2 (h.2.1.trans HSS.out))
    have h2' : (fl == s) = false := by simp [h2]
    clear h2
    have HS : Hid (∀ x, Below wc.heap.size wc x → x.cell? ⟨g, 0, none⟩ = some (.int .i64 wd) ∧ x.cell? ⟨g, 1, none⟩ = some (.int .i64 fl) ∧ x.cell? ⟨g, 2, none⟩ = some (.slice sa xs.length sc)) := fun x hx => ⟨(LX.next hx).cell 0 _ rfl, (LX.next hx).cell 1 _ rfl, (LX.next hx).cell 2 _ rfl⟩
    go_upto_region 2 with (fail)
    refine wp_region_held_drew (S := fun w' => w'.cell? ⟨g, 0, none⟩ = some (.int .i64 wd) ∧ w'.cell? ⟨g, 1, none⟩ = some (.int .i64 fl) ∧ w'.cell? ⟨g, 2, none⟩ = some (.slice sa xs.length sc)) (by kernel_rfl) (HS.out _ (Below.refl _ _).drew) (fun hS => ?_)
    refine anyR 0 rfl ?_
    refine wpAnyH_ready (rs := [1]) (by kernel_rfl) (by simp) (AllReadyH.cons rfl (fun Kr hKr => ?_) AllReadyH.nil)
    go_simp
    (refine (implPlaceOk_is sc h1 (smx.here ((Below.refl _ _).drew))).mono ?_; rintro e w5 ⟨rfl, hb5⟩; have hb5 := undrewE hb5; have hS5 := HS.out _ hb5)
    refine hKr.out _ _ (by assumption) (fun _ => ?_)
    try simp only [nrm]
    refine anyR 2 rfl ?_
    refine anyR 3 rfl ?_
    refine anyR 4 rfl ?_
    refine anyR 5 rfl ?_
    refine wpAnyH_ready (rs := [6]) (by kernel_rfl) (by simp) (AllReadyH.cons rfl (fun Kr hKr => ?_) AllReadyH.nil)
    go_simp
    (refine (hfo.out _ hb5).mono ?_; rintro e w6 ⟨rfl, hb6⟩; have hb6 := below_two hb5 hb6; have hS6 := HS.out _ hb6)
    refine hKr.out _ _ (by assumption) (fun _ => ?_)
    try simp only [nrm]
    refine anyR 7 rfl ?_
    refine anyR 8 rfl ?_
    refine anyR 9 rfl ?_
    refine anyS 10 rfl ?_
    refine anyS 11 rfl ?_
    refine anyS 12 rfl ?_
    refine anyS 13 rfl ?_
    refine anyS 14 rfl ?_
    refine anyR 15 rfl ?_
    refine anyR 16 rfl ?_
    refine wpAnyH_done (by kernel_rfl) ?_ _
    go_wp2
    go_ret
    exact ⟨retC HC.out.symm, below_two bwx hb6⟩
  subst h2
  cases h3 : decide (xs = ys)
  · have HC : Hid (plRB wd fl xs K p = false) := plr_false (fun h => of_decide_eq_false h3 (h.2.2.trans HYY.out))
    have HS : Hid (∀ x, Below wc.heap.size wc x → x.cell? ⟨g, 0, none⟩ = some (.int .i64 wd) ∧ x.cell? ⟨g, 1, none⟩ = some (.int .i64 fl) ∧ x.cell? ⟨g, 2, none⟩ = some (.slice sa xs.length sc)) := fun x hx => ⟨(LX.next hx).cell 0 _ rfl, (LX.next hx).cell 1 _ rfl, (LX.next hx).cell 2 _ rfl⟩
    go_upto_region 2 with (fail)
    refine wp_region_held_drew (S := fun w' => w'.cell? ⟨g, 0, none⟩ = some (.int .i64 wd) ∧ w'.cell? ⟨g, 1, none⟩ = some (.int .i64 fl) ∧ w'.cell? ⟨g, 2, none⟩ = some (.slice sa xs.length sc)) (by kernel_rfl) (HS.out _ (Below.refl _ _).drew) (fun hS => ?_)
    refine anyR 0 rfl ?_
    refine wpAnyH_ready (rs := [1]) (by kernel_rfl) (by simp) (AllReadyH.cons rfl (fun Kr hKr => ?_) AllReadyH.nil)
    go_simp
    (refine (implPlaceOk_is sc h1 (smx.here ((Below.refl _ _).drew))).mono ?_; rintro e w5 ⟨rfl, hb5⟩; have hb5 := undrewE hb5; have hS5 := HS.out _ hb5)
    refine hKr.out _ _ (by assumption) (fun _ => ?_)
    try simp only [nrm]
    refine anyR 2 rfl ?_
    refine anyR 3 rfl ?_
    refine anyR 4 rfl ?_
    refine anyR 5 rfl ?_
    refine wpAnyH_ready (rs := [6]) (by kernel_rfl) (by simp) (AllReadyH.cons rfl (fun Kr hKr => ?_) AllReadyH.nil)
    go_simp
    (refine (hfo.out _ hb5).mono ?_; rintro e w6 ⟨rfl, hb6⟩; have hb6 := below_two hb5 hb6; have hS6 := HS.out _ hb6)
    refine hKr.out _ _ (by assumption) (fun _ => ?_)
    try simp only [nrm]
    refine anyR 7 rfl ?_
    refine anyR 8 rfl ?_
    refine anyR 9 rfl ?_
    refine anyR 10 rfl ?_
    refine anyR 11 rfl ?_
    refine anyR 12 rfl ?_
    refine wpAnyH_ready (rs := [13]) (by kernel_rfl) (by simp) (AllReadyH.cons rfl (fun Kr hKr => ?_) AllReadyH.nil)
    go_simp
    (refine (hio.out _ hb6).mono ?_; rintro e w7 ⟨ui, ci, rfl, smi, hb7⟩; have hb7 := below_two hb6 hb7; have hS7 := HS.out _ hb7)
    refine hKr.out _ _ (by assumption) (fun _ => ?_)
    try simp only [nrm]
    refine wpAnyH_ready (rs := [14]) (by kernel_rfl) (by simp) (AllReadyH.cons rfl (fun Kr hKr => ?_) AllReadyH.nil)
    go_simp
    (refine (eqI_is sc ci h3 (smx.here hb7) smi hx5 hy5).mono ?_; rintro e w8 ⟨rfl, hb8⟩; have hb8 := below_two hb7 hb8; have hS8 := HS.out _ hb8)
    refine hKr.out _ _ (by assumption) (fun _ => ?_)
    try simp only [nrm]
    refine anyR 15 rfl ?_
    refine anyR 16 rfl ?_
    refine wpAnyH_done (by kernel_rfl) ?_ _
    go_wp2
    go_ret
    exact ⟨retC HC.out.symm, below_two bwx hb8⟩
  · have HC : Hid (plRB wd fl xs K p = true) := plr_true ⟨h1, HSS.out.symm, (of_decide_eq_true h3).trans HYY.out.symm⟩
    have HS : Hid (∀ x, Below wc.heap.size wc x → x.cell? ⟨g, 0, none⟩ = some (.int .i64 wd) ∧ x.cell? ⟨g, 1, none⟩ = some (.int .i64 fl) ∧ x.cell? ⟨g, 2, none⟩ = some (.slice sa xs.length sc)) := fun x hx => ⟨(LX.next hx).cell 0 _ rfl, (LX.next hx).cell 1 _ rfl, (LX.next hx).cell 2 _ rfl⟩
    go_upto_region 2 with (fail)
    refine wp_region_held_drew (S := fun w' => w'.cell? ⟨g, 0, none⟩ = some (.int .i64 wd) ∧ w'.cell? ⟨g, 1, none⟩ = some (.int .i64 fl) ∧ w'.cell? ⟨g, 2, none⟩ = some (.slice sa xs.length sc)) (by kernel_rfl) (HS.out _ (Below.refl _ _).drew) (fun hS => ?_)
    refine anyR 0 rfl ?_
    refine wpAnyH_ready (rs := [1]) (by kernel_rfl) (by simp) (AllReadyH.cons rfl (fun Kr hKr => ?_) AllReadyH.nil)
    go_simp
    (refine (implPlaceOk_is sc h1 (smx.here ((Below.refl _ _).drew))).mono ?_; rintro e w5 ⟨rfl, hb5⟩; have hb5 := undrewE hb5; have hS5 := HS.out _ hb5)
    refine hKr.out _ _ (by assumption) (fun _ => ?_)
    try simp only [nrm]
    refine anyR 2 rfl ?_
    refine anyR 3 rfl ?_
    refine anyR 4 rfl ?_
    refine anyR 5 rfl ?_
    refine wpAnyH_ready (rs := [6]) (by kernel_rfl) (by simp) (AllReadyH.cons rfl (fun Kr hKr => ?_) AllReadyH.nil)
    go_simp
    (refine (hfo.out _ hb5).mono ?_; rintro e w6 ⟨rfl, hb6⟩; have hb6 := below_two hb5 hb6; have hS6 := HS.out _ hb6)
    refine hKr.out _ _ (by assumption) (fun _ => ?_)
    try simp only [nrm]
    refine anyR 7 rfl ?_
    refine anyR 8 rfl ?_
    refine anyR 9 rfl ?_
    refine anyR 10 rfl ?_
    refine anyR 11 rfl ?_
    refine anyR 12 rfl ?_
    refine wpAnyH_ready (rs := [13]) (by kernel_rfl) (by simp) (AllReadyH.cons rfl (fun Kr hKr => ?_) AllReadyH.nil)
    go_simp
    (refine (hio.out _ hb6).mono ?_; rintro e w7 ⟨ui, ci, rfl, smi, hb7⟩; have hb7 := below_two hb6 hb7; have hS7 := HS.out _ hb7)
    refine hKr.out _ _ (by assumption) (fun _ => ?_)
    try simp only [nrm]
    refine wpAnyH_ready (rs := [14]) (by kernel_rfl) (by simp) (AllReadyH.cons rfl (fun Kr hKr => ?_) AllReadyH.nil)
    go_simp
    (refine (eqI_is sc ci h3 (smx.here hb7) smi hx5 hy5).mono ?_; rintro e w8 ⟨rfl, hb8⟩; have hb8 := below_two hb7 hb8; have hS8 := HS.out _ hb8)
    refine hKr.out _ _ (by assumption) (fun _ => ?_)
    try simp only [nrm]
    refine anyR 15 rfl ?_
    refine anyR 16 rfl ?_
    refine wpAnyH_done (by kernel_rfl) ?_ _
    go_wp2
    go_ret
    exact ⟨retC HC.out.symm, below_two bwx hb8⟩
end Go.Proofs.YtkohlmloobojfaaGreat
