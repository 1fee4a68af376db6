/- Lemmas on the way, of several texts: ImplFull, ImplMoved. -/
import Derived.Test.YtibfclfidaofkasGrpY
import Derived.Test.YtibfclfidaofkasGrpO
import Derived.Test.YtibfclfidaofkasLate
import Derived.Test.YtibfclfidaofkasGrpN
namespace Go.Proofs.Ytibfclfidaofkas
open Go.ChangeShapes Go.WideShapes Go.ChangeAt Go.RowKit
set_option maxRecDepth 100000
set_option linter.unusedVariables false
set_option linter.unusedSimpArgs false

/-- A Lend made anew. -/
def LendPost (w : World) (T O P : List Q4) (e : Ending) (w' : World) : Prop := ∃ a1 n1 c1 a2 n2 c2 a3 n3 c3, e = .returned (lendV a1 n1 c1 a2 n2 c2 a3 n3 c3) ∧ LV w' w.heap.size (.slice a1 n1 c1) (.slice a2 n2 c2) (.slice a3 n3 c3) T O P ∧ Below w.heap.size w w'
def RowQ (w : World) (N : List Q4) (e : Ending) (w' : World) : Prop := ∃ v, e = .returned v ∧ w'.ownsRow w.heap.size 81 4 v N.length (flatQ N) ∧ Below w.heap.size w w'
set_option maxHeartbeats 2000000 in
theorem cloneC_any {w : World} {b off : Nat} (cap : Nat) {xs : List Q4} (h : Quad w.heap.size w (some ⟨b, off, none⟩) xs) (hl : xs.length ≤ 1000) :
    Calls Try.prog 113 #[.slice (some ⟨b, off, none⟩) xs.length cap] w (RowQ w xs) := by
  obtain ⟨i0, hi, hz0, hz1, hz2⟩ := info_parts info_class
  have q : ∀ (w : World) (a : Option Addr) (n c n' c' : Nat), (binOp .eql 32 (.slice a n c) (.slice none n' c')).run Try.prog w = .ok (.bool a.isNone) w := fun w a n c n' c' => Lib.run_eql_slice_nil w _ _ a n c n' c' Try.underlying32
  have A : Hid (∀ j u, (flatQ xs)[j]? = some u → (w.alloc (.cells #[] 81)).cell? ((⟨b, off, none⟩ : Addr).add j) = some u) := quad_news (h.here (new_below _ _))
  go_enter Try.func113, Try.ntmps113
  go_wp2_with (at_builtin; refine wpList_append_own _ rfl _ _ 32 rfl w.heap.size 81 i0 _ 4 32 Try.underlying32 hi hz0 hz1 hz2 rfl (by decide) _ 0 [] rfl (own_noneQ w _ (Nat.le_refl _) _) ⟨b, off, none⟩ xs.length cap (flatQ xs) rfl (flatQ_length xs) A.out (flatQ_cell xs) (by unfold maxLen; omega) (by omega) (by simp) ?_; intro v' w1 hown hgr hnil)
  go_ret
  exact ⟨v', rfl, by simpa using hown, ((Below.refl _ w).alloc (Nat.le_refl _) _).grown hgr (by simp) (fun k hk => Nat.le_of_eq (Option.some.inj hk))⟩
theorem zero3 (w : World) : Kept w [(w.heap.size, 0, .slice none 0 0), (w.heap.size, 1, .slice none 0 0), (w.heap.size, 2, .slice none 0 0)] [w.heap.size] (w.alloc (.cells #[.slice none 0 0, .slice none 0 0, .slice none 0 0] 35)) :=
  ⟨⟨⟨by simp, by go_simp⟩, ⟨by simp, by go_simp⟩, ⟨by simp, by go_simp⟩, trivial⟩, (fun b hb => by rw [show b = w.heap.size by simpa using hb]; exact ⟨by simp, fun o => by go_simp⟩), new_below _ _⟩
/-- The answer's place is there; the tree has been cloned; the Lend's variable is laid. -/
theorem nl_start {w w2 w3 : World} {aV : Option Addr} {cV : Nat} {T : List Q4} (k : Kept w [(w.heap.size, 0, .slice none 0 0), (w.heap.size, 1, .slice none 0 0), (w.heap.size, 2, .slice none 0 0)] [w.heap.size] w2) (hs : w.heap.size + 1 ≤ w2.heap.size) (ho : w3.ownsRow w2.heap.size 81 4 (.slice aV T.length cV) T.length (flatQ T)) (hb : Below w2.heap.size w2 w3) :
    NlSt w (w3.alloc (.cells #[.slice aV T.length cV, .slice none 0 0, .slice none 0 0] 35)) w3.heap.size (.slice aV T.length cV) (.slice none 0 0) (.slice none 0 0) T [] [] := by
  have K5 := (k.next hb).next (new_below w3 (.cells #[.slice aV T.length cV, .slice none 0 0, .slice none 0 0] 35))
  obtain ⟨⟨e0, e1, e2, _⟩, hf, hbb⟩ := K5
  have hz := hb.size
  refine ⟨⟨⟨e0, e1, e2, ⟨by simp, by go_simp⟩, ⟨by simp, by go_simp⟩, ⟨by simp, by go_simp⟩, trivial⟩, (fun b hb => by simp only [List.mem_cons, List.not_mem_nil, or_false] at hb; rcases hb with rfl | rfl; exact hf _ (List.mem_singleton.2 rfl); exact ⟨by simp, fun o => by go_simp⟩), hbb⟩, row_lowC (ho.alloc _) hs, World.ownsRow_nil _ _ _ _, World.ownsRow_nil _ _ _ _, (fun g e => by cases e), by omega, by simp, (fun e => by have := (ho.lt _ e).2; omega), (fun e => by cases e), (fun e => by cases e)⟩
/-- A class in a variable of its own stays there while a row grows, and while the Lend's variable is stored into. -/
theorem side_row {W W' : World} {c : Nat} {row : Option Nat} {u0 u1 u2 : Value} (hc : Cells W [(c, 1, u0), (c, 2, u1), (c, 3, u2)]) (hg : W.grownBy W' row) (h1 : row ≠ some c) : Cells W' [(c, 1, u0), (c, 2, u1), (c, 3, u2)] := by
  refine Cells.onlyO (OnlyO.of_grown hg) (fun x hx e => ?_) hc
  simp only [List.mem_cons, List.not_mem_nil, or_false] at hx
  rcases hx with rfl | rfl | rfl <;> exact h1 e
theorem cls_good {T : List Q4} (htr : IsTree T) : ∀ k (h : k < T.length), rateB T[k].2.1 = true ∧ rateB T[k].2.2.1 = true ∧ winB T[k].2.2.2 = true := fun k h => by
  have hk := htr.sound.cls k h
  unfold clsB at hk
  simp only [Bool.and_eq_true] at hk
  refine ⟨hk.1.1.1.1, hk.1.1.1.2, ?_⟩
  have hu := hk.2
  unfold burB at hu
  unfold winB
  rw [Bool.and_eq_true] at hu ⊢
  have := of_decide_eq_true hu.1
  exact ⟨decide_eq_true (by omega), hu.2⟩
set_option maxHeartbeats 16000000 in
theorem fullLend_walk {w : World} {aT : Option Addr} (cT : Nat) {T : List Q4} (at' : Int) (hT : Quad w.heap.size w aT T) :
    Calls Try.prog 83 #[.slice aT T.length cT, .int .i64 at'] w fun e w' => (newB_LendMath T at' = true ∧ LendPost w T (T.map (ownFull at')) (T.map (topFull at')) e w') ∨ (newB_LendMath T at' = false ∧ e = gaveUp ∧ Below w.heap.size w w') := by
  have nb : Below w.heap.size w (w.alloc (.cells #[.slice none 0 0, .slice none 0 0, .slice none 0 0] 35)) := new_below _ _
  by_cases hc : treeCode T = 0
  rotate_left
  · have HN : Hid (newB_LendMath T at' = false) := by unfold newB_LendMath; rw [decide_eq_false hc]; rfl
    have hc' : (treeCode T == 0) = false := by simp [hc]
    go_enter Try.func83, Try.ntmps83
    go_wp2_with (first | (go_at_call 97; refine (iTree_any cT (hT.here nb)).mono ?_; rintro e w2 ⟨rfl, hb2⟩) | (go_at_call 96; refine (insist_off _).mono ?_; rintro e w3 ⟨rfl, rfl⟩))
    exact ⟨rfl, .inr ⟨HN.out, rfl, below_step nb hb2⟩⟩
  have htr := tree_of hc
  have h30 := htr.l1
  have h01 := htr.l0
  have HCL : Hid (∀ k (h : k < T.length), rateB T[k].2.1 = true ∧ rateB T[k].2.2.1 = true ∧ winB T[k].2.2.2 = true) := cls_good htr
  have HNB : Hid (newB_LendMath T at' = timeB at') := by unfold newB_LendMath; rw [decide_eq_true hc, Bool.true_and]; rfl
  clear htr
  obtain ⟨iB, hiB, zB0, zB1, zB2⟩ := info_parts info_bucket
  have hTi : (T.length : Int) ≤ 30 := by omega
  obtain ⟨bT, oT, rfl, hbT, -⟩ := hT 0 h01
  have KW : Hid (Kept w [(w.heap.size, 0, .slice none 0 0), (w.heap.size, 1, .slice none 0 0), (w.heap.size, 2, .slice none 0 0)] [w.heap.size] (w.alloc (.cells #[.slice none 0 0, .slice none 0 0, .slice none 0 0] 35))) := zero3 w
  have z0 : (w.alloc (.cells #[.slice none 0 0, .slice none 0 0, .slice none 0 0] 35)).heap.size = w.heap.size + 1 := by simp
  go_enter Try.func83, Try.ntmps83
  go_upto_region 3 with (first
    | (go_at_call 97; refine (iTree_is cT hc (hT.here nb)).mono ?_; rintro e w2 ⟨rfl, hb2⟩; have K2 : Hid (Kept w _ [w.heap.size] w2) := KW.out.next hb2; have hq2 : Hid (Quad w2.heap.size w2 (some ⟨bT, oT, none⟩) T) := hT.here K2.out.hb)
    | (go_at_call 96; refine (insist_on _).mono ?_; rintro e w3 ⟨rfl, rfl⟩)
    | (go_at_call 113; refine (cloneC_any cT hq2.out (by omega)).mono ?_; rintro e w4 ⟨v', rfl, hown, hb4⟩; obtain ⟨aV, cV, rfl⟩ := own_slice hown))
  have hs2 := hb2.size
  rw [z0] at hs2
  have D : Hid (NlSt w (w4.alloc (.cells #[.slice aV T.length cV, .slice none 0 0, .slice none 0 0] 35)) w4.heap.size (.slice aV T.length cV) (.slice none 0 0) (.slice none 0 0) T [] []) := nl_start K2.out hs2 hown hb4
  clear K2 KW hq2 hown hb2 hb4 hs2 z0 nb
  obtain ⟨v0, hv0⟩ : ∃ v, w4.alloc (.cells #[.slice aV T.length cV, .slice none 0 0, .slice none 0 0] 35) = v := ⟨_, rfl⟩
  rw [hv0] at D ⊢
  obtain ⟨b2, hb2⟩ : ∃ b, w4.heap.size = b := ⟨_, rfl⟩
  rw [hb2] at D ⊢
  clear hv0 hb2
  go_wp2
  go_loopw [17] (fun i wr => ∃ (k : Nat) (X Y : List Q4) (aX : Option Addr) (cX : Nat) (aY : Option Addr) (cY : Nat), i = .int .i64 k ∧ k ≤ T.length ∧ Hid (k = 0 ∨ timeB at' = true) ∧ Hid (X = (T.take k).map (ownFull at')) ∧ Hid (Y = (T.take k).map (topFull at')) ∧ Hid (NlSt w wr b2 (.slice aV T.length cV) (.slice aX X.length cX) (.slice aY Y.length cY) T X Y)) (fun i _ => T.length - (intOf i).toNat)
  case atStart => exact ⟨0, [], [], none, 0, none, 0, rfl, by omega, .inl rfl, rfl, rfl, D⟩
  case round =>
    clear D
    obtain ⟨k, X, Y, aX, cX, aY, cY, rfl, hk, HK0, HX, HY, D0⟩ := hrel
    have hbw := D0.out.kept.hb
    by_cases hlt : k < T.length
    · have hlt' : (k : Int) < (T.length : Int) := by omega
      have hcl := HCL.out k hlt
      obtain ⟨x0, x1, x2, x3⟩ := hT.cells hbw k hlt
      have hS1 := take_map hlt (ownFull at')
      have hS2 := take_map hlt (topFull at')
      obtain ⟨b, hb⟩ : ∃ b, T[k] = b := ⟨_, rfl⟩
      rw [hb] at x0 x1 x2 x3 hcl hS1 hS2
      obtain ⟨p, r, c, u⟩ := b
      simp only at x0 x1 x2 x3 hcl
      have HS1 : Hid ((T.take (k + 1)).map (ownFull at') = X ++ [(r, u, 1000000000 * u, at')]) := by rw [← HX.out] at hS1; exact hS1
      have HS2 : Hid ((T.take (k + 1)).map (topFull at') = Y ++ [(c, u, 1000000000 * u, at')]) := by rw [← HY.out] at hS2; exact hS2
      have hlX : X.length ≤ 30 := by rw [HX.out, List.length_map, List.length_take]; omega
      have hlY : Y.length ≤ 30 := by rw [HY.out, List.length_map, List.length_take]; omega
      clear hb hS1 hS2
      have hbTr : bT < wr.heap.size := Nat.lt_of_lt_of_le hbT hbw.size
      go_upto_region 6 with (fail)
      have C0 : Hid (Cells (wr.alloc (.cells #[.int .i64 p, .int .i64 r, .int .i64 c, .int .i64 u] 81)) [(wr.heap.size, 1, .int .i64 r), (wr.heap.size, 2, .int .i64 c), (wr.heap.size, 3, .int .i64 u)]) := ⟨⟨by simp, by go_simp⟩, ⟨by simp, by go_simp⟩, ⟨by simp, by go_simp⟩, trivial⟩
      obtain ⟨wx, hwx⟩ : ∃ v, wr.alloc (.cells #[.int .i64 p, .int .i64 r, .int .i64 c, .int .i64 u] 81) = v := ⟨_, rfl⟩
      have D : Hid (NlSt w wx b2 (.slice aV T.length cV) (.slice aX X.length cX) (.slice aY Y.length cY) T X Y) := by rw [← hwx]; exact D0.out.next (new_below _ _)
      have ow1 : ((.slice aX X.length cX) : Value).ownBlock ≠ some wr.heap.size := fun e => by have := (D0.out.rO.lt _ e).2; omega
      have ow2 : ((.slice aY Y.length cY) : Value).ownBlock ≠ some wr.heap.size := fun e => by have := (D0.out.rP.lt _ e).2; omega
      have zc : wr.heap.size ≠ b2 := by have := D0.out.sz; omega
      rw [hwx] at C0 ⊢
      clear hwx D0 x0 x1 x2 x3 hbTr
      obtain ⟨c0, hc0⟩ : ∃ c, wr.heap.size = c := ⟨_, rfl⟩
      rw [hc0] at C0 ow1 ow2 zc ⊢
      clear hc0
      have hSof : Hid (∀ W, Kept w [(w.heap.size, 0, .slice none 0 0), (w.heap.size, 1, .slice none 0 0), (w.heap.size, 2, .slice none 0 0), (b2, 0, .slice aV T.length cV), (b2, 1, (.slice aX X.length cX)), (b2, 2, (.slice aY Y.length cY))] [w.heap.size, b2] W → Cells W [(c0, 1, .int .i64 r), (c0, 2, .int .i64 c), (c0, 3, .int .i64 u)] → (fun w' => w'.cell? ⟨b2, 1, none⟩ = some (.slice aX X.length cX) ∧ w'.cell? ⟨c0, 1, none⟩ = some (.int .i64 r) ∧ w'.cell? ⟨c0, 3, none⟩ = some (.int .i64 u)) W) := fun W k hc => (by have ⟨_, _, _, _, ⟨_, e4⟩, _⟩ := k.cells; have ⟨⟨_, e1⟩, _, ⟨_, e3⟩, _⟩ := hc; exact ⟨e4, e1, e3⟩)
      cases ht : timeB at'
      · have hk0 : k = 0 := by rcases HK0.out with h | h; exact h; rw [ht] at h; cases h
        have hno : fullOk r u at' = false := by unfold fullOk; rw [ht, Bool.and_false]
        refine region_late (S := fun w' => w'.cell? ⟨b2, 1, none⟩ = some (.slice aX X.length cX) ∧ w'.cell? ⟨c0, 1, none⟩ = some (.int .i64 r) ∧ w'.cell? ⟨c0, 3, none⟩ = some (.int .i64 u)) 11 (by kernel_rfl) (hSof.out _ D.out.kept.drew (C0.out.next (Below.refl _ _).drew)) (fun hS => ?_)
        refine late_take (i := 0) (v := ?_) rfl (by kernel_rfl) (by kernel_rfl) (by kernel_rfl) (by kernel_rfl) (fun _ _ _ h => h) (Or.inl ⟨by rfl, ?_⟩) (by assumption) ?_
        rotate_left 1
        · (intro w' hSw; (try dsimp only at hSw); go_simp; try with_reducible rfl)
        try simp only [Act.put, List.setIfInBounds_toArray, List.set_cons_zero, List.set_cons_succ, List.getElem_toArray, List.getElem_cons_succ, List.getElem_cons_zero]
        refine late_take (i := 1) (v := ?_) rfl (by kernel_rfl) (by kernel_rfl) (by kernel_rfl) (by kernel_rfl) (fun _ _ _ h => h) (Or.inl ⟨by rfl, ?_⟩) (by assumption) ?_
        rotate_left 1
        · (intro w' hSw; (try dsimp only at hSw); go_simp; try with_reducible rfl)
        try simp only [Act.put, List.setIfInBounds_toArray, List.set_cons_zero, List.set_cons_succ, List.getElem_toArray, List.getElem_cons_succ, List.getElem_cons_zero]
        refine late_take (i := 2) (v := ?_) rfl (by kernel_rfl) (by kernel_rfl) (by kernel_rfl) (by kernel_rfl) (fun _ _ _ h => h) (Or.inl ⟨by rfl, ?_⟩) (by assumption) ?_
        rotate_left 1
        · (intro w' hSw; (try dsimp only at hSw); go_simp; try with_reducible rfl)
        try simp only [Act.put, List.setIfInBounds_toArray, List.set_cons_zero, List.set_cons_succ, List.getElem_toArray, List.getElem_cons_succ, List.getElem_cons_zero]
        refine late_take (i := 3) (v := ?_) rfl (by kernel_rfl) (by kernel_rfl) (by kernel_rfl) (by kernel_rfl) (fun _ _ _ h => h) (Or.inl ⟨by rfl, ?_⟩) (by assumption) ?_
        rotate_left 1
        · (intro w' hSw; (try dsimp only at hSw); go_simp; try with_reducible rfl)
        try simp only [Act.put, List.setIfInBounds_toArray, List.set_cons_zero, List.set_cons_succ, List.getElem_toArray, List.getElem_cons_succ, List.getElem_cons_zero]
        refine late_take (i := 4) (v := ?_) rfl (by kernel_rfl) (by kernel_rfl) (by kernel_rfl) (by kernel_rfl) (fun _ _ _ h => h) (Or.inl ⟨by rfl, ?_⟩) (by assumption) ?_
        rotate_left 1
        · (intro w' hSw; (try dsimp only at hSw); go_simp; try with_reducible rfl)
        try simp only [Act.put, List.setIfInBounds_toArray, List.set_cons_zero, List.set_cons_succ, List.getElem_toArray, List.getElem_cons_succ, List.getElem_cons_zero]
        refine late_take (i := 5) (v := ?_) rfl (by kernel_rfl) (by kernel_rfl) (by kernel_rfl) (by kernel_rfl) (fun _ _ _ h => h) (Or.inl ⟨by rfl, ?_⟩) (by assumption) ?_
        rotate_left 1
        · (intro w' hSw; (try dsimp only at hSw); go_simp; try with_reducible rfl)
        try simp only [Act.put, List.setIfInBounds_toArray, List.set_cons_zero, List.set_cons_succ, List.getElem_toArray, List.getElem_cons_succ, List.getElem_cons_zero]
        refine late_take (i := 6) (v := ?_) rfl (by kernel_rfl) (by kernel_rfl) (by kernel_rfl) (by kernel_rfl) (fun _ _ _ h => h) (Or.inl ⟨by rfl, ?_⟩) (by assumption) ?_
        rotate_left 1
        · (intro w' hSw; (try dsimp only at hSw); go_simp; try with_reducible rfl)
        try simp only [Act.put, List.setIfInBounds_toArray, List.set_cons_zero, List.set_cons_succ, List.getElem_toArray, List.getElem_cons_succ, List.getElem_cons_zero]
        refine late_one (i := 7) (by kernel_rfl) rfl (fun K hK => ?_)
        go_simp
        refine (fullTill_no _ hno).mono ?_
        rintro e va ⟨rfl, hba⟩
        have hba := undrew_ImplRight hba
        exact ⟨rfl, .inr ⟨by rw [HNB.out]; exact ht, rfl, below_step D.out.kept.hb hba⟩⟩
      · have hyes : fullOk r u at' = true := by unfold fullOk; rw [ht, hcl.1, hcl.2.2]; rfl
        have hyes2 : fullOk c u at' = true := by unfold fullOk; rw [ht, hcl.2.1, hcl.2.2]; rfl
        clear hcl
        refine region_late (S := fun w' => w'.cell? ⟨b2, 1, none⟩ = some (.slice aX X.length cX) ∧ w'.cell? ⟨c0, 1, none⟩ = some (.int .i64 r) ∧ w'.cell? ⟨c0, 3, none⟩ = some (.int .i64 u)) 11 (by kernel_rfl) (hSof.out _ D.out.kept.drew (C0.out.next (Below.refl _ _).drew)) (fun hS => ?_)
        refine late_take (i := 0) (v := ?_) rfl (by kernel_rfl) (by kernel_rfl) (by kernel_rfl) (by kernel_rfl) (fun _ _ _ h => h) (Or.inl ⟨by rfl, ?_⟩) (by assumption) ?_
        rotate_left 1
        · (intro w' hSw; (try dsimp only at hSw); go_simp; try with_reducible rfl)
        try simp only [Act.put, List.setIfInBounds_toArray, List.set_cons_zero, List.set_cons_succ, List.getElem_toArray, List.getElem_cons_succ, List.getElem_cons_zero]
        refine late_take (i := 1) (v := ?_) rfl (by kernel_rfl) (by kernel_rfl) (by kernel_rfl) (by kernel_rfl) (fun _ _ _ h => h) (Or.inl ⟨by rfl, ?_⟩) (by assumption) ?_
        rotate_left 1
        · (intro w' hSw; (try dsimp only at hSw); go_simp; try with_reducible rfl)
        try simp only [Act.put, List.setIfInBounds_toArray, List.set_cons_zero, List.set_cons_succ, List.getElem_toArray, List.getElem_cons_succ, List.getElem_cons_zero]
        refine late_take (i := 2) (v := ?_) rfl (by kernel_rfl) (by kernel_rfl) (by kernel_rfl) (by kernel_rfl) (fun _ _ _ h => h) (Or.inl ⟨by rfl, ?_⟩) (by assumption) ?_
        rotate_left 1
        · (intro w' hSw; (try dsimp only at hSw); go_simp; try with_reducible rfl)
        try simp only [Act.put, List.setIfInBounds_toArray, List.set_cons_zero, List.set_cons_succ, List.getElem_toArray, List.getElem_cons_succ, List.getElem_cons_zero]
        refine late_take (i := 3) (v := ?_) rfl (by kernel_rfl) (by kernel_rfl) (by kernel_rfl) (by kernel_rfl) (fun _ _ _ h => h) (Or.inl ⟨by rfl, ?_⟩) (by assumption) ?_
        rotate_left 1
        · (intro w' hSw; (try dsimp only at hSw); go_simp; try with_reducible rfl)
        try simp only [Act.put, List.setIfInBounds_toArray, List.set_cons_zero, List.set_cons_succ, List.getElem_toArray, List.getElem_cons_succ, List.getElem_cons_zero]
        refine late_take (i := 4) (v := ?_) rfl (by kernel_rfl) (by kernel_rfl) (by kernel_rfl) (by kernel_rfl) (fun _ _ _ h => h) (Or.inl ⟨by rfl, ?_⟩) (by assumption) ?_
        rotate_left 1
        · (intro w' hSw; (try dsimp only at hSw); go_simp; try with_reducible rfl)
        try simp only [Act.put, List.setIfInBounds_toArray, List.set_cons_zero, List.set_cons_succ, List.getElem_toArray, List.getElem_cons_succ, List.getElem_cons_zero]
        refine late_take (i := 5) (v := ?_) rfl (by kernel_rfl) (by kernel_rfl) (by kernel_rfl) (by kernel_rfl) (fun _ _ _ h => h) (Or.inl ⟨by rfl, ?_⟩) (by assumption) ?_
        rotate_left 1
        · (intro w' hSw; (try dsimp only at hSw); go_simp; try with_reducible rfl)
        try simp only [Act.put, List.setIfInBounds_toArray, List.set_cons_zero, List.set_cons_succ, List.getElem_toArray, List.getElem_cons_succ, List.getElem_cons_zero]
        refine late_take (i := 6) (v := ?_) rfl (by kernel_rfl) (by kernel_rfl) (by kernel_rfl) (by kernel_rfl) (fun _ _ _ h => h) (Or.inl ⟨by rfl, ?_⟩) (by assumption) ?_
        rotate_left 1
        · (intro w' hSw; (try dsimp only at hSw); go_simp; try with_reducible rfl)
        try simp only [Act.put, List.setIfInBounds_toArray, List.set_cons_zero, List.set_cons_succ, List.getElem_toArray, List.getElem_cons_succ, List.getElem_cons_zero]
        refine late_one (i := 7) (by kernel_rfl) rfl (fun K hK => ?_)
        go_simp
        (refine (fullTill_yes _ hyes).mono ?_; rintro e va ⟨rfl, hba⟩; have hba := undrew_ImplRight hba; have D2 : Hid (NlSt w va b2 (.slice aV T.length cV) (.slice aX X.length cX) (.slice aY Y.length cY) T X Y) := D.out.next hba; have C2 : Hid (Cells va [(c0, 1, .int .i64 r), (c0, 2, .int .i64 c), (c0, 3, .int .i64 u)]) := C0.out.next hba; have hS := hSof.out _ D2.out.kept C2.out; simp only [])
        refine hK.out _ _ (by assumption) (fun _ => ?_)
        try simp only [Act.put, List.setIfInBounds_toArray, List.set_cons_zero, List.set_cons_succ, List.getElem_toArray, List.getElem_cons_succ, List.getElem_cons_zero]
        refine late_one (i := 8) (by kernel_rfl) rfl (fun K hK => ?_)
        go_simp
        have DA : Hid (NlSt w (va.alloc (.cells #[.int .i64 r, .int .i64 u, .int .i64 (1000000000 * u), .int .i64 at'] 57)) b2 (.slice aV T.length cV) (.slice aX X.length cX) (.slice aY Y.length cY) T X Y) := D2.out.next (new_below _ _)
        have C3 : Hid (Cells (va.alloc (.cells #[.int .i64 r, .int .i64 u, .int .i64 (1000000000 * u), .int .i64 at'] 57)) [(c0, 1, .int .i64 r), (c0, 2, .int .i64 c), (c0, 3, .int .i64 u)]) := C2.out.next (new_below _ _)
        refine hK.out _ _ (hSof.out _ DA.out.kept C3.out) (fun hS => ?_)
        try simp only [Act.put, List.setIfInBounds_toArray, List.set_cons_zero, List.set_cons_succ, List.getElem_toArray, List.getElem_cons_succ, List.getElem_cons_zero]
        refine late_one (i := 9) (by kernel_rfl) rfl (fun K hK => ?_)
        rw [if_pos (by rfl)]
        refine wp_append_two _ _ _ 33 rfl (w.heap.size + 1) 57 iB _ 4 32 Try.underlying33 hiB zB0 zB1 zB2 rfl (by decide) _ _ _ rfl DA.out.rO ⟨va.heap.size, 0, none⟩ 1 1 [.int .i64 r, .int .i64 u, .int .i64 (1000000000 * u), .int .i64 at'] rfl rfl (four_newsC (by go_simp) (by go_simp) (by go_simp) (by go_simp)) (flatQ_cell [(r, u, 1000000000 * u, at')]) (by unfold maxLen; omega) (by omega) (by have := DA.out.sz; have := DA.out.lo; omega) (by omega) ?_
        intro v' w5 ho hgr hbl
        obtain ⟨gN, cN, rfl, _, _⟩ := own_someC ho (Nat.le_add_left 1 _)
        have DB : Hid (NlSt w (w5.setCell ⟨b2, 1, none⟩ (.slice (some ⟨gN, 0, none⟩) (X.length + 1) cN)) b2 (.slice aV T.length cV) (.slice (some ⟨gN, 0, none⟩) (X.length + 1) cN) (.slice aY Y.length cY) T (X ++ [(r, u, 1000000000 * u, at')]) Y) := DA.out.appO (x := (r, u, 1000000000 * u, at')) hgr ho hbl
        have KK := DA.out.keeps hgr (fun g e => (DA.out.rO.lt g e).1) DA.out.nO
        have C4 : Hid (Cells w5 [(c0, 1, .int .i64 r), (c0, 2, .int .i64 c), (c0, 3, .int .i64 u)]) := side_row C3.out hgr ow1
        have ⟨_, _, _, ⟨_, s3⟩, ⟨_, s4⟩, ⟨_, s5⟩, _⟩ := KK.cells
        have sF := (KK.free b2 (List.mem_cons_of_mem _ (List.mem_singleton.2 rfl))).2
        refine hK.out _ _ (hSof.out _ KK C4.out) (fun hS => ?_)
        clear KK
        try simp only [Act.put, List.setIfInBounds_toArray, List.set_cons_zero, List.set_cons_succ, List.getElem_toArray, List.getElem_cons_succ, List.getElem_cons_zero]
        refine late_take (i := 10) (v := ?_) rfl (by kernel_rfl) (by kernel_rfl) (by kernel_rfl) (by kernel_rfl) (fun _ _ _ h => h) (Or.inl ⟨by rfl, ?_⟩) (by assumption) ?_
        rotate_left 1
        · (intro w' hSw; (try dsimp only at hSw); go_simp; try with_reducible rfl)
        try simp only [Act.put, List.setIfInBounds_toArray, List.set_cons_zero, List.set_cons_succ, List.getElem_toArray, List.getElem_cons_succ, List.getElem_cons_zero]
        refine late_last (by kernel_rfl) rfl (by kernel_rfl) (fun K hK => ?_)
        go_simp
        refine hK.out _ _ ?_
        try simp only [Act.put, List.setIfInBounds_toArray, List.set_cons_zero, List.set_cons_succ, List.getElem_toArray, List.getElem_cons_succ, List.getElem_cons_zero]
        have C9 : Hid (Cells (w5.setCell ⟨b2, 1, none⟩ (.slice (some ⟨gN, 0, none⟩) (X.length + 1) cN)) [(c0, 1, .int .i64 r), (c0, 2, .int .i64 c), (c0, 3, .int .i64 u)]) := side_row C4.out (grown_set w5 b2 1 (.slice (some ⟨gN, 0, none⟩) (X.length + 1) cN)) (fun e => zc (Option.some.inj e).symm)
        clear D D2 DA C0 C2 C3 C4 hSof s3 s4 s5 sF ho hgr hbl
        obtain ⟨v9, hv9⟩ : ∃ v, (w5.setCell ⟨b2, 1, none⟩ (.slice (some ⟨gN, 0, none⟩) (X.length + 1) cN)) = v := ⟨_, rfl⟩
        rw [hv9] at DB C9 ⊢
        clear hv9
        have D : Hid (NlSt w v9 b2 (.slice aV T.length cV) (.slice (some ⟨gN, 0, none⟩) (X.length + 1) cN) (.slice aY Y.length cY) T (X ++ [(r, u, 1000000000 * u, at')]) Y) := DB.out
        have C0 := C9
        clear DB C9
        have hSof2 : Hid (∀ W, Kept w [(w.heap.size, 0, .slice none 0 0), (w.heap.size, 1, .slice none 0 0), (w.heap.size, 2, .slice none 0 0), (b2, 0, .slice aV T.length cV), (b2, 1, (.slice (some ⟨gN, 0, none⟩) (X.length + 1) cN)), (b2, 2, (.slice aY Y.length cY))] [w.heap.size, b2] W → Cells W [(c0, 1, .int .i64 r), (c0, 2, .int .i64 c), (c0, 3, .int .i64 u)] → (fun w' => w'.cell? ⟨b2, 2, none⟩ = some (.slice aY Y.length cY) ∧ w'.cell? ⟨c0, 2, none⟩ = some (.int .i64 c) ∧ w'.cell? ⟨c0, 3, none⟩ = some (.int .i64 u)) W) := fun W k hc => (by have ⟨_, _, _, _, _, ⟨_, e5⟩, _⟩ := k.cells; have ⟨_, ⟨_, e2⟩, ⟨_, e3⟩, _⟩ := hc; exact ⟨e5, e2, e3⟩)
        repeat go_step
        refine region_late (S := fun w' => w'.cell? ⟨b2, 2, none⟩ = some (.slice aY Y.length cY) ∧ w'.cell? ⟨c0, 2, none⟩ = some (.int .i64 c) ∧ w'.cell? ⟨c0, 3, none⟩ = some (.int .i64 u)) 11 (by kernel_rfl) (hSof2.out _ D.out.kept.drew (C0.out.next (Below.refl _ _).drew)) (fun hS => ?_)
        refine late_take (i := 0) (v := ?_) rfl (by kernel_rfl) (by kernel_rfl) (by kernel_rfl) (by kernel_rfl) (fun _ _ _ h => h) (Or.inl ⟨by rfl, ?_⟩) (by assumption) ?_
        rotate_left 1
        · (intro w' hSw; (try dsimp only at hSw); go_simp; try with_reducible rfl)
        try simp only [Act.put, List.setIfInBounds_toArray, List.set_cons_zero, List.set_cons_succ, List.getElem_toArray, List.getElem_cons_succ, List.getElem_cons_zero]
        refine late_take (i := 1) (v := ?_) rfl (by kernel_rfl) (by kernel_rfl) (by kernel_rfl) (by kernel_rfl) (fun _ _ _ h => h) (Or.inl ⟨by rfl, ?_⟩) (by assumption) ?_
        rotate_left 1
        · (intro w' hSw; (try dsimp only at hSw); go_simp; try with_reducible rfl)
        try simp only [Act.put, List.setIfInBounds_toArray, List.set_cons_zero, List.set_cons_succ, List.getElem_toArray, List.getElem_cons_succ, List.getElem_cons_zero]
        refine late_take (i := 2) (v := ?_) rfl (by kernel_rfl) (by kernel_rfl) (by kernel_rfl) (by kernel_rfl) (fun _ _ _ h => h) (Or.inl ⟨by rfl, ?_⟩) (by assumption) ?_
        rotate_left 1
        · (intro w' hSw; (try dsimp only at hSw); go_simp; try with_reducible rfl)
        try simp only [Act.put, List.setIfInBounds_toArray, List.set_cons_zero, List.set_cons_succ, List.getElem_toArray, List.getElem_cons_succ, List.getElem_cons_zero]
        refine late_take (i := 3) (v := ?_) rfl (by kernel_rfl) (by kernel_rfl) (by kernel_rfl) (by kernel_rfl) (fun _ _ _ h => h) (Or.inl ⟨by rfl, ?_⟩) (by assumption) ?_
        rotate_left 1
        · (intro w' hSw; (try dsimp only at hSw); go_simp; try with_reducible rfl)
        try simp only [Act.put, List.setIfInBounds_toArray, List.set_cons_zero, List.set_cons_succ, List.getElem_toArray, List.getElem_cons_succ, List.getElem_cons_zero]
        refine late_take (i := 4) (v := ?_) rfl (by kernel_rfl) (by kernel_rfl) (by kernel_rfl) (by kernel_rfl) (fun _ _ _ h => h) (Or.inl ⟨by rfl, ?_⟩) (by assumption) ?_
        rotate_left 1
        · (intro w' hSw; (try dsimp only at hSw); go_simp; try with_reducible rfl)
        try simp only [Act.put, List.setIfInBounds_toArray, List.set_cons_zero, List.set_cons_succ, List.getElem_toArray, List.getElem_cons_succ, List.getElem_cons_zero]
        refine late_take (i := 5) (v := ?_) rfl (by kernel_rfl) (by kernel_rfl) (by kernel_rfl) (by kernel_rfl) (fun _ _ _ h => h) (Or.inl ⟨by rfl, ?_⟩) (by assumption) ?_
        rotate_left 1
        · (intro w' hSw; (try dsimp only at hSw); go_simp; try with_reducible rfl)
        try simp only [Act.put, List.setIfInBounds_toArray, List.set_cons_zero, List.set_cons_succ, List.getElem_toArray, List.getElem_cons_succ, List.getElem_cons_zero]
        refine late_take (i := 6) (v := ?_) rfl (by kernel_rfl) (by kernel_rfl) (by kernel_rfl) (by kernel_rfl) (fun _ _ _ h => h) (Or.inl ⟨by rfl, ?_⟩) (by assumption) ?_
        rotate_left 1
        · (intro w' hSw; (try dsimp only at hSw); go_simp; try with_reducible rfl)
        try simp only [Act.put, List.setIfInBounds_toArray, List.set_cons_zero, List.set_cons_succ, List.getElem_toArray, List.getElem_cons_succ, List.getElem_cons_zero]
        refine late_one (i := 7) (by kernel_rfl) rfl (fun K hK => ?_)
        go_simp
        (refine (fullTill_yes _ hyes2).mono ?_; rintro e vb ⟨rfl, hba⟩; have hba := undrew_ImplRight hba; have D2 : Hid (NlSt w vb b2 (.slice aV T.length cV) (.slice (some ⟨gN, 0, none⟩) (X.length + 1) cN) (.slice aY Y.length cY) T (X ++ [(r, u, 1000000000 * u, at')]) Y) := D.out.next hba; have C2 : Hid (Cells vb [(c0, 1, .int .i64 r), (c0, 2, .int .i64 c), (c0, 3, .int .i64 u)]) := C0.out.next hba; have hS := hSof2.out _ D2.out.kept C2.out; simp only [])
        refine hK.out _ _ (by assumption) (fun _ => ?_)
        try simp only [Act.put, List.setIfInBounds_toArray, List.set_cons_zero, List.set_cons_succ, List.getElem_toArray, List.getElem_cons_succ, List.getElem_cons_zero]
        refine late_one (i := 8) (by kernel_rfl) rfl (fun K hK => ?_)
        go_simp
        have DA : Hid (NlSt w (vb.alloc (.cells #[.int .i64 c, .int .i64 u, .int .i64 (1000000000 * u), .int .i64 at'] 57)) b2 (.slice aV T.length cV) (.slice (some ⟨gN, 0, none⟩) (X.length + 1) cN) (.slice aY Y.length cY) T (X ++ [(r, u, 1000000000 * u, at')]) Y) := D2.out.next (new_below _ _)
        have C3 : Hid (Cells (vb.alloc (.cells #[.int .i64 c, .int .i64 u, .int .i64 (1000000000 * u), .int .i64 at'] 57)) [(c0, 1, .int .i64 r), (c0, 2, .int .i64 c), (c0, 3, .int .i64 u)]) := C2.out.next (new_below _ _)
        refine hK.out _ _ (hSof2.out _ DA.out.kept C3.out) (fun hS => ?_)
        try simp only [Act.put, List.setIfInBounds_toArray, List.set_cons_zero, List.set_cons_succ, List.getElem_toArray, List.getElem_cons_succ, List.getElem_cons_zero]
        refine late_one (i := 9) (by kernel_rfl) rfl (fun K hK => ?_)
        rw [if_pos (by rfl)]
        refine wp_append_two _ _ _ 33 rfl (w.heap.size + 1) 57 iB _ 4 32 Try.underlying33 hiB zB0 zB1 zB2 rfl (by decide) _ _ _ rfl DA.out.rP ⟨vb.heap.size, 0, none⟩ 1 1 [.int .i64 c, .int .i64 u, .int .i64 (1000000000 * u), .int .i64 at'] rfl rfl (four_newsC (by go_simp) (by go_simp) (by go_simp) (by go_simp)) (flatQ_cell [(c, u, 1000000000 * u, at')]) (by unfold maxLen; omega) (by omega) (by have := DA.out.sz; have := DA.out.lo; omega) (by omega) ?_
        intro v' w6 ho hgr hbl
        obtain ⟨gM, cM, rfl, _, _⟩ := own_someC ho (Nat.le_add_left 1 _)
        have DB : Hid (NlSt w (w6.setCell ⟨b2, 2, none⟩ (.slice (some ⟨gM, 0, none⟩) (Y.length + 1) cM)) b2 (.slice aV T.length cV) (.slice (some ⟨gN, 0, none⟩) (X.length + 1) cN) (.slice (some ⟨gM, 0, none⟩) (Y.length + 1) cM) T (X ++ [(r, u, 1000000000 * u, at')]) (Y ++ [(c, u, 1000000000 * u, at')])) := DA.out.appP (x := (c, u, 1000000000 * u, at')) hgr ho hbl
        have KK := DA.out.keeps hgr (fun g e => (DA.out.rP.lt g e).1) DA.out.nP
        have C4 : Hid (Cells w6 [(c0, 1, .int .i64 r), (c0, 2, .int .i64 c), (c0, 3, .int .i64 u)]) := side_row C3.out hgr ow2
        have ⟨_, _, _, ⟨_, s3⟩, ⟨_, s4⟩, ⟨_, s5⟩, _⟩ := KK.cells
        have sF := (KK.free b2 (List.mem_cons_of_mem _ (List.mem_singleton.2 rfl))).2
        refine hK.out _ _ (hSof2.out _ KK C4.out) (fun hS => ?_)
        clear KK
        try simp only [Act.put, List.setIfInBounds_toArray, List.set_cons_zero, List.set_cons_succ, List.getElem_toArray, List.getElem_cons_succ, List.getElem_cons_zero]
        refine late_take (i := 10) (v := ?_) rfl (by kernel_rfl) (by kernel_rfl) (by kernel_rfl) (by kernel_rfl) (fun _ _ _ h => h) (Or.inl ⟨by rfl, ?_⟩) (by assumption) ?_
        rotate_left 1
        · (intro w' hSw; (try dsimp only at hSw); go_simp; try with_reducible rfl)
        try simp only [Act.put, List.setIfInBounds_toArray, List.set_cons_zero, List.set_cons_succ, List.getElem_toArray, List.getElem_cons_succ, List.getElem_cons_zero]
        refine late_last (by kernel_rfl) rfl (by kernel_rfl) (fun K hK => ?_)
        go_simp
        refine hK.out _ _ ?_
        try simp only [Act.put, List.setIfInBounds_toArray, List.set_cons_zero, List.set_cons_succ, List.getElem_toArray, List.getElem_cons_succ, List.getElem_cons_zero]
        repeat go_step
        go_roundw
        case rel => exact ⟨k + 1, X ++ [(r, u, 1000000000 * u, at')], Y ++ [(c, u, 1000000000 * u, at')], some ⟨gN, 0, none⟩, cN, some ⟨gM, 0, none⟩, cM, by go_num, by omega, .inr ht, HS1.out.symm, HS2.out.symm, (by rw [List.length_append, List.length_append]; exact DB.out)⟩
        case measure => first | (simp [intOf]; done) | (simp [intOf]; omega)
    · have e : k = T.length := by omega
      subst e
      have D := D0
      have ht : timeB at' = true := by rcases HK0.out with h | h; omega; exact h
      have HEX : Hid (X = T.map (ownFull at')) := by rw [HX.out, List.take_length]; exact rfl
      have HEY : Hid (Y = T.map (topFull at')) := by rw [HY.out, List.take_length]; exact rfl
      have ⟨⟨_, q0⟩, ⟨_, q1⟩, ⟨_, q2⟩, ⟨_, q3⟩, ⟨_, q4⟩, ⟨_, q5⟩, _⟩ := D.out.kept.cells
      have fr := (D.out.kept.free w.heap.size (List.mem_cons_self ..)).2
      have n1 : w.heap.size ≠ b2 := by have := D.out.lo; omega
      go_wp2
      refine bodyPost_ret (results_one rfl _ _ _ [.slice aV T.length cV, .slice aX X.length cX, .slice aY Y.length cY] rfl (set_three (u0 := .slice none 0 0) (u1 := .slice none 0 0) (u2 := .slice none 0 0) _ _ _ q0 q1 q2) Try.underlying35 rfl (by kernel_rfl)) rfl ?_
      have hfin := nl_fin D.out (a := .slice aV T.length cV) (b := .slice aX X.length cX) (c := .slice aY Y.length cY)
      rw [← HEX.out, ← HEY.out]
      exact .inl ⟨by rw [HNB.out]; exact ht, _, _, _, _, _, _, _, _, _, rfl, hfin.1, hfin.2⟩
theorem fullLend_yes {w : World} {aT : Option Addr} (cT : Nat) {T : List Q4} {at' : Int} (hn : newB_LendMath T at' = true) (hT : Quad w.heap.size w aT T) :
    Calls Try.prog 83 #[.slice aT T.length cT, .int .i64 at'] w (LendPost w T (T.map (ownFull at')) (T.map (topFull at'))) := (fullLend_walk cT at' hT).mono (by
  rintro e w' (⟨_, h⟩ | ⟨h, _⟩)
  · exact h
  · rw [hn] at h; cases h)
theorem fullLend_no {w : World} {aT : Option Addr} (cT : Nat) {T : List Q4} {at' : Int} (hn : newB_LendMath T at' = false) (hT : Quad w.heap.size w aT T) :
    Calls Try.prog 83 #[.slice aT T.length cT, .int .i64 at'] w fun e w' => e = gaveUp ∧ Below w.heap.size w w' := (fullLend_walk cT at' hT).mono (by
  rintro e w' (⟨h, _⟩ | ⟨_, h⟩)
  · rw [hn] at h; cases h
  · exact h)
end Go.Proofs.Ytibfclfidaofkas
namespace Go.Proofs.Ytibfclfidaofkas
open Go.ChangeShapes Go.WideShapes Go.ChangeAt Go.RowKit
set_option maxRecDepth 100000
set_option linter.unusedVariables false
set_option linter.unusedSimpArgs false

end Go.Proofs.Ytibfclfidaofkas
