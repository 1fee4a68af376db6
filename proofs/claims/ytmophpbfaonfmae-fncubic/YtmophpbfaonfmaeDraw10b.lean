/- The draw of a Cc. -/
import Derived.Test.YtmophpbfaonfmaeDraw10
import Derived.Test.YtmophpbfaonfmaeLate
import Derived.Deep.RegionHeld3
import Derived.Deep.DeepCutAuto
namespace Go.Proofs.Ytmophpbfaonfmae
open Go.ChangeShapes Go.WideShapes Go.ChangeAt Go.RowKit
set_option maxRecDepth 100000
set_option linter.unusedVariables false
set_option linter.unusedSimpArgs false

def R10 (B : Nat) (a0 : Option Addr) (len cap b : Nat) (w wr : World) (g : Nat) : Prop := ∃ c : C10, T10St B a0 len cap b w wr g c
set_option maxHeartbeats 16000000 in
theorem l10Draw_acc {B : Nat} {a0 : Option Addr} {len cap b : Nat} {w : World} (kc : Cur B a0 len cap b w) :
    Calls Try.prog 78 #[.pointer (some ⟨b, 0, none⟩)] w (D10Post B a0 len cap b w) := by
  have hb := kc.hi
  have k0 := kc.alloc (.cells #[.int .i64 0, .int .i64 0, .int .i64 0, .int .i64 0, .int .i64 0, .int .i64 0, .int .i64 0, .int .i64 0, .int .i64 0, .bool false] 31)
  have o0 := (Only.refl b w).alloc (.cells #[.int .i64 0, .int .i64 0, .int .i64 0, .int .i64 0, .int .i64 0, .int .i64 0, .int .i64 0, .int .i64 0, .int .i64 0, .bool false] 31)
  have f0 := ten_zero w 31
  go_enter Try.func78, Try.ntmps78
  go_wp2_with (first
    | (go_at_call_of 65 (Value.int IntKind.i64 3); refine (below_acc 3 k0 (Only.refl _ _) (by omega) (by omega)).mono ?_; rintro e w1 ⟨x1, rfl, hx1, k1, o1⟩; have f1 := f0.only o1 (by simp) (by omega); have z1 : w.heap.size < w1.heap.size := (by have := o1.size; simp at this; omega); have p1 := o0.trans o1)
    | (go_at_call 28; refine (specNewCc_some _ _).mono ?_; rintro e w2 ⟨c2, f2, rfl, hb2⟩; have k2 := k1.mono hb2; have f2' := f1.only (Only.of_below (b := b) hb2) z1 (by omega); have z2 : w.heap.size < w2.heap.size := Nat.lt_of_lt_of_le z1 hb2.size; have p2 := p1.trans (Only.of_below (b := b) hb2); have D2 : Hid (T10St B a0 len cap b w (w2.alloc (.cells #[.int .i64 c2.k, .int .i64 c2.wn, .int .i64 c2.th, .int .i64 c2.fl, .int .i64 c2.ac, .int .i64 c2.la, .int .i64 c2.og, .int .i64 c2.st, .int .i64 c2.fr, .bool c2.sl] 31)) w2.heap.size c2) := t10_new (k := 0) rfl k2 p2 f2' z2 hb)
    | (go_at_call_of 65 (Value.int IntKind.i64 1000000000); refine (below_acc 1000000000 D2.out.cur (Only.refl _ _) (by omega) (by omega)).mono ?_; rintro e w3 ⟨x3, rfl, hx3, k3, o3⟩; have D3 : Hid (T10St B a0 len cap b w w3 w2.heap.size c2) := D2.out.draw o3 k3)
    | (go_at_call_of 65 (Value.int IntKind.i64 8); refine (below_acc 8 D3.out.cur (Only.refl _ _) (by omega) (by omega)).mono ?_; rintro e w4 ⟨x4, rfl, hx4, k4, o4⟩; have D4 : Hid (T10St B a0 len cap b w w4 w2.heap.size c2) := D3.out.draw o4 k4))
  obtain ⟨X4, rfl⟩ := Int.eq_ofNat_of_zero_le hx4.1
  obtain ⟨g, hg⟩ : ∃ g, w2.heap.size = g := ⟨_, rfl⟩
  rw [hg] at D4
  simp only [hg]
  clear hg D2 D3
  go_loopw [5, 6] (fun t i wr => ∃ (j : Nat) (v : Int) (c : C10), t = .int .i64 v ∧ i = .int .i64 j ∧ j ≤ 8 ∧ Hid (T10St B a0 len cap b w wr g c)) (fun _ i _ => (intOf i).toNat)
  case atStart => exact ⟨X4, x3, c2, rfl, rfl, by omega, D4⟩
  case round =>
    clear D4
    obtain ⟨j, v, c, rfl, rfl, hj, DR⟩ := hrel
    cases j with
    | succ j =>
      have hj1 : (0 : Int) < ((j + 1 : Nat) : Int) := by omega
      go_upto_block 1 with (fail)
      go_cut [5] from 22 to 68 (fun t wd => ∃ (v : Int) (c : C10), t = .int .i64 v ∧ T10St B a0 len cap b w wd g c)
      case first =>
        go_upto_block 2 with (first
          | (go_at_call_of 65 (Value.int IntKind.i64 400000000); refine (below_acc 400000000 DR.out.cur (Only.refl _ _) (by omega) (by omega)).mono ?_; rintro e wA ⟨xA, rfl, hxA, kA, oA⟩; have DA : Hid (T10St B a0 len cap b w wA g c) := DR.out.draw oA kA)
          | (go_at_call_of 65 (Value.int IntKind.i64 6); refine (below_acc 6 DA.out.cur (Only.refl _ _) (by omega) (by omega)).mono ?_; rintro e wB ⟨xB, rfl, hxB, kB, oB⟩; have DB : Hid (T10St B a0 len cap b w wB g c) := DA.out.draw oB kB))
        clear DR DA
        have DR := DB
        clear DB
        have hc0 := DR.out.fil.c0
        have hc1 := DR.out.fil.c1
        have hc2 := DR.out.fil.c2
        have hc3 := DR.out.fil.c3
        have hc4 := DR.out.fil.c4
        have hc5 := DR.out.fil.c5
        have hc6 := DR.out.fil.c6
        have hc7 := DR.out.fil.c7
        have hc8 := DR.out.fil.c8
        have hc9 := DR.out.fil.c9
        have hfr := DR.out.fil.fr
        have hhi := DR.out.hi
        have hlt := DR.out.lt
        rcases (show xB = 0 ∨ xB = 1 ∨ xB = 2 ∨ xB = 3 ∨ xB = 4 ∨ xB = 5 from by omega) with rfl | rfl | rfl | rfl | rfl | rfl
        · go_wp2
          refine region_late (S := fun w' => w'.cell? ⟨g, 0, none⟩ = some (.int .i64 c.k) ∧ w'.cell? ⟨g, 1, none⟩ = some (.int .i64 c.wn) ∧ w'.cell? ⟨g, 2, none⟩ = some (.int .i64 c.th) ∧ w'.cell? ⟨g, 3, none⟩ = some (.int .i64 c.fl) ∧ w'.cell? ⟨g, 4, none⟩ = some (.int .i64 c.ac) ∧ w'.cell? ⟨g, 5, none⟩ = some (.int .i64 c.la) ∧ w'.cell? ⟨g, 6, none⟩ = some (.int .i64 c.og) ∧ w'.cell? ⟨g, 7, none⟩ = some (.int .i64 c.st) ∧ w'.cell? ⟨g, 8, none⟩ = some (.int .i64 c.fr) ∧ w'.cell? ⟨g, 9, none⟩ = some (.bool c.sl)) 10 (by kernel_rfl) (⟨DR.out.fil.c0, DR.out.fil.c1, DR.out.fil.c2, DR.out.fil.c3, DR.out.fil.c4, DR.out.fil.c5, DR.out.fil.c6, DR.out.fil.c7, DR.out.fil.c8, DR.out.fil.c9⟩) (fun hS => ?_)
          refine late_take (i := 0) (v := ?_) rfl (by kernel_rfl) (by kernel_rfl) (by kernel_rfl) (by kernel_rfl) (fun _ _ _ h => h) (Or.inl ⟨by rfl, ?_⟩) (by assumption) ?_
          rotate_left 1
          · (intro w' hSw; (try dsimp only at hSw); go_simp; try with_reducible rfl)
          try simp only [Act.put, List.setIfInBounds_toArray, List.set_cons_zero, List.set_cons_succ, List.getElem_toArray, List.getElem_cons_succ, List.getElem_cons_zero]
          refine late_take (i := 1) (v := ?_) rfl (by kernel_rfl) (by kernel_rfl) (by kernel_rfl) (by kernel_rfl) (fun _ _ _ h => h) (Or.inl ⟨by rfl, ?_⟩) (by assumption) ?_
          rotate_left 1
          · (intro w' hSw; (try dsimp only at hSw); go_simp; try with_reducible rfl)
          try simp only [Act.put, List.setIfInBounds_toArray, List.set_cons_zero, List.set_cons_succ, List.getElem_toArray, List.getElem_cons_succ, List.getElem_cons_zero]
          refine late_two (i := 2) (j := 8) (by kernel_rfl) rfl rfl (fun K hK => ?_) (fun K hK => ?_)
          · go_simp
            (refine (below_acc 1500 ((DR.out.next (Below.refl _ _).drew)).cur (Only.refl _ _) (by omega) (by omega)).mono ?_; rintro e w5 ⟨x5, rfl, hx5, k5, o5⟩; have D5 : Hid (T10St B a0 len cap b w w5 g c) := ((DR.out.next (Below.refl _ _).drew)).draw o5 k5; have hS5 := And.intro D5.out.fil.c0 (And.intro D5.out.fil.c1 (And.intro D5.out.fil.c2 (And.intro D5.out.fil.c3 (And.intro D5.out.fil.c4 (And.intro D5.out.fil.c5 (And.intro D5.out.fil.c6 (And.intro D5.out.fil.c7 (And.intro D5.out.fil.c8 (D5.out.fil.c9))))))))))
            refine hK.out _ _ (by assumption) (fun _ => ?_)
            try simp only [Act.put, List.setIfInBounds_toArray, List.set_cons_zero, List.set_cons_succ, List.getElem_toArray, List.getElem_cons_succ, List.getElem_cons_zero]
            refine late_take (i := 3) (v := ?_) rfl (by kernel_rfl) (by kernel_rfl) (by kernel_rfl) (by kernel_rfl) (fun _ _ _ h => h) (Or.inl ⟨by rfl, ?_⟩) (by assumption) ?_
            rotate_left 1
            · (intro w' hSw; (try dsimp only at hSw); go_simp; try with_reducible rfl)
            try simp only [Act.put, List.setIfInBounds_toArray, List.set_cons_zero, List.set_cons_succ, List.getElem_toArray, List.getElem_cons_succ, List.getElem_cons_zero]
            refine late_two (i := 4) (j := 8) (by kernel_rfl) rfl rfl (fun K hK => ?_) (fun K hK => ?_)
            · go_simp
              (refine (specSent_some c _ _).mono ?_; rintro e w6 ⟨d, f, rfl, hb6⟩; have D6 : Hid (T10St B a0 len cap b w w6 g c) := D5.out.next hb6; have hS6 := And.intro D6.out.fil.c0 (And.intro D6.out.fil.c1 (And.intro D6.out.fil.c2 (And.intro D6.out.fil.c3 (And.intro D6.out.fil.c4 (And.intro D6.out.fil.c5 (And.intro D6.out.fil.c6 (And.intro D6.out.fil.c7 (And.intro D6.out.fil.c8 (D6.out.fil.c9))))))))); have hc0 := D6.out.fil.c0; have hc1 := D6.out.fil.c1; have hc2 := D6.out.fil.c2; have hc3 := D6.out.fil.c3; have hc4 := D6.out.fil.c4; have hc5 := D6.out.fil.c5; have hc6 := D6.out.fil.c6; have hc7 := D6.out.fil.c7; have hc8 := D6.out.fil.c8; have hc9 := D6.out.fil.c9; have hfr := D6.out.fil.fr; have hhi := D6.out.hi; have hlt := D6.out.lt)
              refine hK.out _ _ (by assumption) (fun _ => ?_)
              try simp only [Act.put, List.setIfInBounds_toArray, List.set_cons_zero, List.set_cons_succ, List.getElem_toArray, List.getElem_cons_succ, List.getElem_cons_zero]
              refine late_take (i := 5) (v := ?_) rfl (by kernel_rfl) (by kernel_rfl) (by kernel_rfl) (by kernel_rfl) (fun _ _ _ h => h) (Or.inl ⟨by rfl, ?_⟩) (by assumption) ?_
              rotate_left 1
              · (intro w' hSw; (try dsimp only at hSw); go_simp; try with_reducible rfl)
              try simp only [Act.put, List.setIfInBounds_toArray, List.set_cons_zero, List.set_cons_succ, List.getElem_toArray, List.getElem_cons_succ, List.getElem_cons_zero]
              refine late_take (i := 6) (v := ?_) rfl (by kernel_rfl) (by kernel_rfl) (by kernel_rfl) (by kernel_rfl) (fun _ _ _ h => h) (Or.inl ⟨by rfl, ?_⟩) (by assumption) ?_
              rotate_left 1
              · (intro w' hSw; (try dsimp only at hSw); go_simp; try with_reducible rfl)
              try simp only [Act.put, List.setIfInBounds_toArray, List.set_cons_zero, List.set_cons_succ, List.getElem_toArray, List.getElem_cons_succ, List.getElem_cons_zero]
              refine late_take (i := 7) (v := ?_) rfl (by kernel_rfl) (by kernel_rfl) (by kernel_rfl) (by kernel_rfl) (fun _ _ _ h => h) (Or.inl ⟨by rfl, ?_⟩) (by assumption) ?_
              rotate_left 1
              · (intro w' hSw; (try dsimp only at hSw); go_simp; try with_reducible rfl)
              try simp only [Act.put, List.setIfInBounds_toArray, List.set_cons_zero, List.set_cons_succ, List.getElem_toArray, List.getElem_cons_succ, List.getElem_cons_zero]
              refine late_one (i := 8) (by kernel_rfl) rfl (fun K hK => ?_)
              go_simp
              have hSa := And.intro (D6.out.next (new_below _ (.cells #[.int .i64 0, .int .i64 0, .int .i64 0, .int .i64 0, .int .i64 0, .int .i64 0, .int .i64 0, .int .i64 0, .int .i64 0, .bool false] 31))).fil.c0 (And.intro (D6.out.next (new_below _ (.cells #[.int .i64 0, .int .i64 0, .int .i64 0, .int .i64 0, .int .i64 0, .int .i64 0, .int .i64 0, .int .i64 0, .int .i64 0, .bool false] 31))).fil.c1 (And.intro (D6.out.next (new_below _ (.cells #[.int .i64 0, .int .i64 0, .int .i64 0, .int .i64 0, .int .i64 0, .int .i64 0, .int .i64 0, .int .i64 0, .int .i64 0, .bool false] 31))).fil.c2 (And.intro (D6.out.next (new_below _ (.cells #[.int .i64 0, .int .i64 0, .int .i64 0, .int .i64 0, .int .i64 0, .int .i64 0, .int .i64 0, .int .i64 0, .int .i64 0, .bool false] 31))).fil.c3 (And.intro (D6.out.next (new_below _ (.cells #[.int .i64 0, .int .i64 0, .int .i64 0, .int .i64 0, .int .i64 0, .int .i64 0, .int .i64 0, .int .i64 0, .int .i64 0, .bool false] 31))).fil.c4 (And.intro (D6.out.next (new_below _ (.cells #[.int .i64 0, .int .i64 0, .int .i64 0, .int .i64 0, .int .i64 0, .int .i64 0, .int .i64 0, .int .i64 0, .int .i64 0, .bool false] 31))).fil.c5 (And.intro (D6.out.next (new_below _ (.cells #[.int .i64 0, .int .i64 0, .int .i64 0, .int .i64 0, .int .i64 0, .int .i64 0, .int .i64 0, .int .i64 0, .int .i64 0, .bool false] 31))).fil.c6 (And.intro (D6.out.next (new_below _ (.cells #[.int .i64 0, .int .i64 0, .int .i64 0, .int .i64 0, .int .i64 0, .int .i64 0, .int .i64 0, .int .i64 0, .int .i64 0, .bool false] 31))).fil.c7 (And.intro (D6.out.next (new_below _ (.cells #[.int .i64 0, .int .i64 0, .int .i64 0, .int .i64 0, .int .i64 0, .int .i64 0, .int .i64 0, .int .i64 0, .int .i64 0, .bool false] 31))).fil.c8 ((D6.out.next (new_below _ (.cells #[.int .i64 0, .int .i64 0, .int .i64 0, .int .i64 0, .int .i64 0, .int .i64 0, .int .i64 0, .int .i64 0, .int .i64 0, .bool false] 31))).fil.c9)))))))))
              refine hK.out _ _ (by assumption) (fun hS => ?_)
              try simp only [Act.put, List.setIfInBounds_toArray, List.set_cons_zero, List.set_cons_succ, List.getElem_toArray, List.getElem_cons_succ, List.getElem_cons_zero]
              refine late_one (i := 9) (by kernel_rfl) rfl (fun K hK => ?_)
              go_simp
              have HP : Hid (T10St B a0 len cap b w (w6.alloc (.cells #[.int .i64 d.k, .int .i64 d.wn, .int .i64 d.th, .int .i64 d.fl, .int .i64 d.ac, .int .i64 d.la, .int .i64 d.og, .int .i64 d.st, .int .i64 d.fr, .bool d.sl] 31)) g c) := D6.out.next (new_below _ _)
              have hSp := And.intro HP.out.fil.c0 (And.intro HP.out.fil.c1 (And.intro HP.out.fil.c2 (And.intro HP.out.fil.c3 (And.intro HP.out.fil.c4 (And.intro HP.out.fil.c5 (And.intro HP.out.fil.c6 (And.intro HP.out.fil.c7 (And.intro HP.out.fil.c8 (HP.out.fil.c9)))))))))
              refine hK.out _ _ (by assumption) (fun hS => ?_)
              try simp only [Act.put, List.setIfInBounds_toArray, List.set_cons_zero, List.set_cons_succ, List.getElem_toArray, List.getElem_cons_succ, List.getElem_cons_zero]
              refine late_last (by kernel_rfl) rfl (by kernel_rfl) (fun K hK => ?_)
              go_simp
              refine hK.out _ _ ?_
              try simp only [Act.put, List.setIfInBounds_toArray, List.set_cons_zero, List.set_cons_succ, List.getElem_toArray, List.getElem_cons_succ, List.getElem_cons_zero]
              cases f
              · go_wp2
                go_meet
                exact ⟨_, c, rfl, HP.out⟩
              · go_wp2
                go_meet
                exact ⟨_, d, rfl, (D6.out.put d).next (new_below _ _)⟩
            · go_simp
              have HY : Hid (Y10 B a0 len cap b w _ g c w5.heap.size) := Y10.made (D5.out) 31
              have hSy := And.intro HY.out.st.fil.c0 (And.intro HY.out.st.fil.c1 (And.intro HY.out.st.fil.c2 (And.intro HY.out.st.fil.c3 (And.intro HY.out.st.fil.c4 (And.intro HY.out.st.fil.c5 (And.intro HY.out.st.fil.c6 (And.intro HY.out.st.fil.c7 (And.intro HY.out.st.fil.c8 (HY.out.st.fil.c9)))))))))
              refine hK.out _ _ (by assumption) (fun hS => ?_)
              try simp only [Act.put, List.setIfInBounds_toArray, List.set_cons_zero, List.set_cons_succ, List.getElem_toArray, List.getElem_cons_succ, List.getElem_cons_zero]
              refine late_one (i := 4) (by kernel_rfl) rfl (fun K hK => ?_)
              go_simp
              (refine (specSent_some c _ _).mono ?_; rintro e w6 ⟨d, f, rfl, hb6⟩; have HY6 := HY.out.next hb6; have hS6 := And.intro HY6.st.fil.c0 (And.intro HY6.st.fil.c1 (And.intro HY6.st.fil.c2 (And.intro HY6.st.fil.c3 (And.intro HY6.st.fil.c4 (And.intro HY6.st.fil.c5 (And.intro HY6.st.fil.c6 (And.intro HY6.st.fil.c7 (And.intro HY6.st.fil.c8 (HY6.st.fil.c9))))))))); have hy0 := HY6.ten.c0; have hy1 := HY6.ten.c1; have hy2 := HY6.ten.c2; have hy3 := HY6.ten.c3; have hy4 := HY6.ten.c4; have hy5 := HY6.ten.c5; have hy6 := HY6.ten.c6; have hy7 := HY6.ten.c7; have hy8 := HY6.ten.c8; have hy9 := HY6.ten.c9; have hyf := HY6.ten.fr; have hyh := HY6.yh; have hgy := HY6.gy; have hc0 := HY6.st.fil.c0; have hc1 := HY6.st.fil.c1; have hc2 := HY6.st.fil.c2; have hc3 := HY6.st.fil.c3; have hc4 := HY6.st.fil.c4; have hc5 := HY6.st.fil.c5; have hc6 := HY6.st.fil.c6; have hc7 := HY6.st.fil.c7; have hc8 := HY6.st.fil.c8; have hc9 := HY6.st.fil.c9; have hfr := HY6.st.fil.fr; have hhi := HY6.st.hi; have hlt := HY6.st.lt)
              refine hK.out _ _ (by assumption) (fun _ => ?_)
              try simp only [Act.put, List.setIfInBounds_toArray, List.set_cons_zero, List.set_cons_succ, List.getElem_toArray, List.getElem_cons_succ, List.getElem_cons_zero]
              refine late_take (i := 5) (v := ?_) rfl (by kernel_rfl) (by kernel_rfl) (by kernel_rfl) (by kernel_rfl) (fun _ _ _ h => h) (Or.inl ⟨by rfl, ?_⟩) (by assumption) ?_
              rotate_left 1
              · (intro w' hSw; (try dsimp only at hSw); go_simp; try with_reducible rfl)
              try simp only [Act.put, List.setIfInBounds_toArray, List.set_cons_zero, List.set_cons_succ, List.getElem_toArray, List.getElem_cons_succ, List.getElem_cons_zero]
              refine late_take (i := 6) (v := ?_) rfl (by kernel_rfl) (by kernel_rfl) (by kernel_rfl) (by kernel_rfl) (fun _ _ _ h => h) (Or.inl ⟨by rfl, ?_⟩) (by assumption) ?_
              rotate_left 1
              · (intro w' hSw; (try dsimp only at hSw); go_simp; try with_reducible rfl)
              try simp only [Act.put, List.setIfInBounds_toArray, List.set_cons_zero, List.set_cons_succ, List.getElem_toArray, List.getElem_cons_succ, List.getElem_cons_zero]
              refine late_take (i := 7) (v := ?_) rfl (by kernel_rfl) (by kernel_rfl) (by kernel_rfl) (by kernel_rfl) (fun _ _ _ h => h) (Or.inl ⟨by rfl, ?_⟩) (by assumption) ?_
              rotate_left 1
              · (intro w' hSw; (try dsimp only at hSw); go_simp; try with_reducible rfl)
              try simp only [Act.put, List.setIfInBounds_toArray, List.set_cons_zero, List.set_cons_succ, List.getElem_toArray, List.getElem_cons_succ, List.getElem_cons_zero]
              refine late_one (i := 9) (by kernel_rfl) rfl (fun K hK => ?_)
              go_simp
              have HP : Hid (_) := (HY6.put d).1
              have HT := (HY6.put d).2
              have hSp := And.intro HP.out.fil.c0 (And.intro HP.out.fil.c1 (And.intro HP.out.fil.c2 (And.intro HP.out.fil.c3 (And.intro HP.out.fil.c4 (And.intro HP.out.fil.c5 (And.intro HP.out.fil.c6 (And.intro HP.out.fil.c7 (And.intro HP.out.fil.c8 (HP.out.fil.c9)))))))))
              refine hK.out _ _ (by assumption) (fun hS => ?_)
              try simp only [Act.put, List.setIfInBounds_toArray, List.set_cons_zero, List.set_cons_succ, List.getElem_toArray, List.getElem_cons_succ, List.getElem_cons_zero]
              refine late_last (by kernel_rfl) rfl (by kernel_rfl) (fun K hK => ?_)
              go_simp
              refine hK.out _ _ ?_
              try simp only [Act.put, List.setIfInBounds_toArray, List.set_cons_zero, List.set_cons_succ, List.getElem_toArray, List.getElem_cons_succ, List.getElem_cons_zero]
              cases f
              · go_wp2
                go_meet
                exact ⟨_, c, rfl, HP.out⟩
              · go_wp2
                go_meet
                exact ⟨_, d, rfl, HP.out.put d⟩
          · go_simp
            have HY : Hid (Y10 B a0 len cap b w _ g c wB.heap.size) := Y10.made ((DR.out.next (Below.refl _ _).drew)) 31
            have hSy := And.intro HY.out.st.fil.c0 (And.intro HY.out.st.fil.c1 (And.intro HY.out.st.fil.c2 (And.intro HY.out.st.fil.c3 (And.intro HY.out.st.fil.c4 (And.intro HY.out.st.fil.c5 (And.intro HY.out.st.fil.c6 (And.intro HY.out.st.fil.c7 (And.intro HY.out.st.fil.c8 (HY.out.st.fil.c9)))))))))
            refine hK.out _ _ (by assumption) (fun hS => ?_)
            try simp only [Act.put, List.setIfInBounds_toArray, List.set_cons_zero, List.set_cons_succ, List.getElem_toArray, List.getElem_cons_succ, List.getElem_cons_zero]
            refine late_one (i := 2) (by kernel_rfl) rfl (fun K hK => ?_)
            go_simp
            (refine (below_acc 1500 HY.out.st.cur (Only.refl _ _) (by omega) (by omega)).mono ?_; rintro e w5 ⟨x5, rfl, hx5, k5, o5⟩; have HY5 : Hid (_) := HY.out.draw o5 k5; have hS5 := And.intro HY5.out.st.fil.c0 (And.intro HY5.out.st.fil.c1 (And.intro HY5.out.st.fil.c2 (And.intro HY5.out.st.fil.c3 (And.intro HY5.out.st.fil.c4 (And.intro HY5.out.st.fil.c5 (And.intro HY5.out.st.fil.c6 (And.intro HY5.out.st.fil.c7 (And.intro HY5.out.st.fil.c8 (HY5.out.st.fil.c9))))))))))
            refine hK.out _ _ (by assumption) (fun _ => ?_)
            try simp only [Act.put, List.setIfInBounds_toArray, List.set_cons_zero, List.set_cons_succ, List.getElem_toArray, List.getElem_cons_succ, List.getElem_cons_zero]
            refine late_take (i := 3) (v := ?_) rfl (by kernel_rfl) (by kernel_rfl) (by kernel_rfl) (by kernel_rfl) (fun _ _ _ h => h) (Or.inl ⟨by rfl, ?_⟩) (by assumption) ?_
            rotate_left 1
            · (intro w' hSw; (try dsimp only at hSw); go_simp; try with_reducible rfl)
            try simp only [Act.put, List.setIfInBounds_toArray, List.set_cons_zero, List.set_cons_succ, List.getElem_toArray, List.getElem_cons_succ, List.getElem_cons_zero]
            refine late_one (i := 4) (by kernel_rfl) rfl (fun K hK => ?_)
            go_simp
            (refine (specSent_some c _ _).mono ?_; rintro e w6 ⟨d, f, rfl, hb6⟩; have HY6 := HY5.out.next hb6; have hS6 := And.intro HY6.st.fil.c0 (And.intro HY6.st.fil.c1 (And.intro HY6.st.fil.c2 (And.intro HY6.st.fil.c3 (And.intro HY6.st.fil.c4 (And.intro HY6.st.fil.c5 (And.intro HY6.st.fil.c6 (And.intro HY6.st.fil.c7 (And.intro HY6.st.fil.c8 (HY6.st.fil.c9))))))))); have hy0 := HY6.ten.c0; have hy1 := HY6.ten.c1; have hy2 := HY6.ten.c2; have hy3 := HY6.ten.c3; have hy4 := HY6.ten.c4; have hy5 := HY6.ten.c5; have hy6 := HY6.ten.c6; have hy7 := HY6.ten.c7; have hy8 := HY6.ten.c8; have hy9 := HY6.ten.c9; have hyf := HY6.ten.fr; have hyh := HY6.yh; have hgy := HY6.gy; have hc0 := HY6.st.fil.c0; have hc1 := HY6.st.fil.c1; have hc2 := HY6.st.fil.c2; have hc3 := HY6.st.fil.c3; have hc4 := HY6.st.fil.c4; have hc5 := HY6.st.fil.c5; have hc6 := HY6.st.fil.c6; have hc7 := HY6.st.fil.c7; have hc8 := HY6.st.fil.c8; have hc9 := HY6.st.fil.c9; have hfr := HY6.st.fil.fr; have hhi := HY6.st.hi; have hlt := HY6.st.lt)
            refine hK.out _ _ (by assumption) (fun _ => ?_)
            try simp only [Act.put, List.setIfInBounds_toArray, List.set_cons_zero, List.set_cons_succ, List.getElem_toArray, List.getElem_cons_succ, List.getElem_cons_zero]
            refine late_take (i := 5) (v := ?_) rfl (by kernel_rfl) (by kernel_rfl) (by kernel_rfl) (by kernel_rfl) (fun _ _ _ h => h) (Or.inl ⟨by rfl, ?_⟩) (by assumption) ?_
            rotate_left 1
            · (intro w' hSw; (try dsimp only at hSw); go_simp; try with_reducible rfl)
            try simp only [Act.put, List.setIfInBounds_toArray, List.set_cons_zero, List.set_cons_succ, List.getElem_toArray, List.getElem_cons_succ, List.getElem_cons_zero]
            refine late_take (i := 6) (v := ?_) rfl (by kernel_rfl) (by kernel_rfl) (by kernel_rfl) (by kernel_rfl) (fun _ _ _ h => h) (Or.inl ⟨by rfl, ?_⟩) (by assumption) ?_
            rotate_left 1
            · (intro w' hSw; (try dsimp only at hSw); go_simp; try with_reducible rfl)
            try simp only [Act.put, List.setIfInBounds_toArray, List.set_cons_zero, List.set_cons_succ, List.getElem_toArray, List.getElem_cons_succ, List.getElem_cons_zero]
            refine late_take (i := 7) (v := ?_) rfl (by kernel_rfl) (by kernel_rfl) (by kernel_rfl) (by kernel_rfl) (fun _ _ _ h => h) (Or.inl ⟨by rfl, ?_⟩) (by assumption) ?_
            rotate_left 1
            · (intro w' hSw; (try dsimp only at hSw); go_simp; try with_reducible rfl)
            try simp only [Act.put, List.setIfInBounds_toArray, List.set_cons_zero, List.set_cons_succ, List.getElem_toArray, List.getElem_cons_succ, List.getElem_cons_zero]
            refine late_one (i := 9) (by kernel_rfl) rfl (fun K hK => ?_)
            go_simp
            have HP : Hid (_) := (HY6.put d).1
            have HT := (HY6.put d).2
            have hSp := And.intro HP.out.fil.c0 (And.intro HP.out.fil.c1 (And.intro HP.out.fil.c2 (And.intro HP.out.fil.c3 (And.intro HP.out.fil.c4 (And.intro HP.out.fil.c5 (And.intro HP.out.fil.c6 (And.intro HP.out.fil.c7 (And.intro HP.out.fil.c8 (HP.out.fil.c9)))))))))
            refine hK.out _ _ (by assumption) (fun hS => ?_)
            try simp only [Act.put, List.setIfInBounds_toArray, List.set_cons_zero, List.set_cons_succ, List.getElem_toArray, List.getElem_cons_succ, List.getElem_cons_zero]
            refine late_last (by kernel_rfl) rfl (by kernel_rfl) (fun K hK => ?_)
            go_simp
            refine hK.out _ _ ?_
            try simp only [Act.put, List.setIfInBounds_toArray, List.set_cons_zero, List.set_cons_succ, List.getElem_toArray, List.getElem_cons_succ, List.getElem_cons_zero]
            cases f
            · go_wp2
              go_meet
              exact ⟨_, c, rfl, HP.out⟩
            · go_wp2
              go_meet
              exact ⟨_, d, rfl, HP.out.put d⟩
        · go_wp2
          refine region_late (S := fun w' => w'.cell? ⟨g, 0, none⟩ = some (.int .i64 c.k) ∧ w'.cell? ⟨g, 1, none⟩ = some (.int .i64 c.wn) ∧ w'.cell? ⟨g, 2, none⟩ = some (.int .i64 c.th) ∧ w'.cell? ⟨g, 3, none⟩ = some (.int .i64 c.fl) ∧ w'.cell? ⟨g, 4, none⟩ = some (.int .i64 c.ac) ∧ w'.cell? ⟨g, 5, none⟩ = some (.int .i64 c.la) ∧ w'.cell? ⟨g, 6, none⟩ = some (.int .i64 c.og) ∧ w'.cell? ⟨g, 7, none⟩ = some (.int .i64 c.st) ∧ w'.cell? ⟨g, 8, none⟩ = some (.int .i64 c.fr) ∧ w'.cell? ⟨g, 9, none⟩ = some (.bool c.sl)) 5 (by kernel_rfl) (⟨DR.out.fil.c0, DR.out.fil.c1, DR.out.fil.c2, DR.out.fil.c3, DR.out.fil.c4, DR.out.fil.c5, DR.out.fil.c6, DR.out.fil.c7, DR.out.fil.c8, DR.out.fil.c9⟩) (fun hS => ?_)
          refine late_take (i := 0) (v := ?_) rfl (by kernel_rfl) (by kernel_rfl) (by kernel_rfl) (by kernel_rfl) (fun _ _ _ h => h) (Or.inl ⟨by rfl, ?_⟩) (by assumption) ?_
          rotate_left 1
          · (intro w' hSw; (try dsimp only at hSw); go_simp; try with_reducible rfl)
          try simp only [Act.put, List.setIfInBounds_toArray, List.set_cons_zero, List.set_cons_succ, List.getElem_toArray, List.getElem_cons_succ, List.getElem_cons_zero]
          refine late_take (i := 1) (v := ?_) rfl (by kernel_rfl) (by kernel_rfl) (by kernel_rfl) (by kernel_rfl) (fun _ _ _ h => h) (Or.inl ⟨by rfl, ?_⟩) (by assumption) ?_
          rotate_left 1
          · (intro w' hSw; (try dsimp only at hSw); go_simp; try with_reducible rfl)
          try simp only [Act.put, List.setIfInBounds_toArray, List.set_cons_zero, List.set_cons_succ, List.getElem_toArray, List.getElem_cons_succ, List.getElem_cons_zero]
          refine late_one (i := 2) (by kernel_rfl) rfl (fun K hK => ?_)
          go_simp
          (refine (below_acc 6000 ((DR.out.next (Below.refl _ _).drew)).cur (Only.refl _ _) (by omega) (by omega)).mono ?_; rintro e w5 ⟨x5, rfl, hx5, k5, o5⟩; have D5 : Hid (T10St B a0 len cap b w w5 g c) := ((DR.out.next (Below.refl _ _).drew)).draw o5 k5; have hS5 := And.intro D5.out.fil.c0 (And.intro D5.out.fil.c1 (And.intro D5.out.fil.c2 (And.intro D5.out.fil.c3 (And.intro D5.out.fil.c4 (And.intro D5.out.fil.c5 (And.intro D5.out.fil.c6 (And.intro D5.out.fil.c7 (And.intro D5.out.fil.c8 (D5.out.fil.c9))))))))))
          refine hK.out _ _ (by assumption) (fun _ => ?_)
          try simp only [Act.put, List.setIfInBounds_toArray, List.set_cons_zero, List.set_cons_succ, List.getElem_toArray, List.getElem_cons_succ, List.getElem_cons_zero]
          refine late_take (i := 3) (v := ?_) rfl (by kernel_rfl) (by kernel_rfl) (by kernel_rfl) (by kernel_rfl) (fun _ _ _ h => h) (Or.inl ⟨by rfl, ?_⟩) (by assumption) ?_
          rotate_left 1
          · (intro w' hSw; (try dsimp only at hSw); go_simp; try with_reducible rfl)
          try simp only [Act.put, List.setIfInBounds_toArray, List.set_cons_zero, List.set_cons_succ, List.getElem_toArray, List.getElem_cons_succ, List.getElem_cons_zero]
          refine late_one (i := 4) (by kernel_rfl) rfl (fun K hK => ?_)
          go_simp
          (refine (specRenoAck_some c _ _).mono ?_; rintro e w6 ⟨d, rfl, hb6⟩; have D6 : Hid (T10St B a0 len cap b w w6 g c) := D5.out.next hb6; have hS6 := And.intro D6.out.fil.c0 (And.intro D6.out.fil.c1 (And.intro D6.out.fil.c2 (And.intro D6.out.fil.c3 (And.intro D6.out.fil.c4 (And.intro D6.out.fil.c5 (And.intro D6.out.fil.c6 (And.intro D6.out.fil.c7 (And.intro D6.out.fil.c8 (D6.out.fil.c9))))))))); have hc0 := D6.out.fil.c0; have hc1 := D6.out.fil.c1; have hc2 := D6.out.fil.c2; have hc3 := D6.out.fil.c3; have hc4 := D6.out.fil.c4; have hc5 := D6.out.fil.c5; have hc6 := D6.out.fil.c6; have hc7 := D6.out.fil.c7; have hc8 := D6.out.fil.c8; have hc9 := D6.out.fil.c9; have hfr := D6.out.fil.fr; have hhi := D6.out.hi; have hlt := D6.out.lt)
          refine hK.out _ _ (by assumption) (fun _ => ?_)
          try simp only [Act.put, List.setIfInBounds_toArray, List.set_cons_zero, List.set_cons_succ, List.getElem_toArray, List.getElem_cons_succ, List.getElem_cons_zero]
          refine late_last (by kernel_rfl) rfl (by kernel_rfl) (fun K hK => ?_)
          go_simp
          refine hK.out _ _ ?_
          try simp only [Act.put, List.setIfInBounds_toArray, List.set_cons_zero, List.set_cons_succ, List.getElem_toArray, List.getElem_cons_succ, List.getElem_cons_zero]
          go_wp2
          go_meet
          exact ⟨_, d, rfl, D6.out.put d⟩
        · go_wp2_with (first
            | (go_at_call 19; refine (specRenoLoss_some c _).mono ?_; rintro e w6 ⟨d, rfl, hb6⟩; have D6 : Hid (T10St B a0 len cap b w w6 g c) := DR.out.next hb6; have hc0 := D6.out.fil.c0; have hc1 := D6.out.fil.c1; have hc2 := D6.out.fil.c2; have hc3 := D6.out.fil.c3; have hc4 := D6.out.fil.c4; have hc5 := D6.out.fil.c5; have hc6 := D6.out.fil.c6; have hc7 := D6.out.fil.c7; have hc8 := D6.out.fil.c8; have hc9 := D6.out.fil.c9; have hfr := D6.out.fil.fr; have hhi := D6.out.hi; have hlt := D6.out.lt))
          go_meet
          exact ⟨_, d, rfl, D6.out.put d⟩
        · go_wp2
          refine region_late (S := fun w' => w'.cell? ⟨g, 0, none⟩ = some (.int .i64 c.k) ∧ w'.cell? ⟨g, 1, none⟩ = some (.int .i64 c.wn) ∧ w'.cell? ⟨g, 2, none⟩ = some (.int .i64 c.th) ∧ w'.cell? ⟨g, 3, none⟩ = some (.int .i64 c.fl) ∧ w'.cell? ⟨g, 4, none⟩ = some (.int .i64 c.ac) ∧ w'.cell? ⟨g, 5, none⟩ = some (.int .i64 c.la) ∧ w'.cell? ⟨g, 6, none⟩ = some (.int .i64 c.og) ∧ w'.cell? ⟨g, 7, none⟩ = some (.int .i64 c.st) ∧ w'.cell? ⟨g, 8, none⟩ = some (.int .i64 c.fr) ∧ w'.cell? ⟨g, 9, none⟩ = some (.bool c.sl)) 6 (by kernel_rfl) (⟨DR.out.fil.c0, DR.out.fil.c1, DR.out.fil.c2, DR.out.fil.c3, DR.out.fil.c4, DR.out.fil.c5, DR.out.fil.c6, DR.out.fil.c7, DR.out.fil.c8, DR.out.fil.c9⟩) (fun hS => ?_)
          refine late_take (i := 0) (v := ?_) rfl (by kernel_rfl) (by kernel_rfl) (by kernel_rfl) (by kernel_rfl) (fun _ _ _ h => h) (Or.inl ⟨by rfl, ?_⟩) (by assumption) ?_
          rotate_left 1
          · (intro w' hSw; (try dsimp only at hSw); go_simp; try with_reducible rfl)
          try simp only [Act.put, List.setIfInBounds_toArray, List.set_cons_zero, List.set_cons_succ, List.getElem_toArray, List.getElem_cons_succ, List.getElem_cons_zero]
          refine late_take (i := 1) (v := ?_) rfl (by kernel_rfl) (by kernel_rfl) (by kernel_rfl) (by kernel_rfl) (fun _ _ _ h => h) (Or.inl ⟨by rfl, ?_⟩) (by assumption) ?_
          rotate_left 1
          · (intro w' hSw; (try dsimp only at hSw); go_simp; try with_reducible rfl)
          try simp only [Act.put, List.setIfInBounds_toArray, List.set_cons_zero, List.set_cons_succ, List.getElem_toArray, List.getElem_cons_succ, List.getElem_cons_zero]
          refine late_take (i := 4) (v := ?_) rfl (by kernel_rfl) (by kernel_rfl) (by kernel_rfl) (by kernel_rfl) (fun _ _ _ h => h) (Or.inl ⟨by rfl, ?_⟩) (by assumption) ?_
          rotate_left 1
          · (intro w' hSw; (try dsimp only at hSw); go_simp; try with_reducible rfl)
          try simp only [Act.put, List.setIfInBounds_toArray, List.set_cons_zero, List.set_cons_succ, List.getElem_toArray, List.getElem_cons_succ, List.getElem_cons_zero]
          refine late_one (i := 2) (by kernel_rfl) rfl (fun K hK => ?_)
          go_simp
          (refine (below_acc 6000 ((DR.out.next (Below.refl _ _).drew)).cur (Only.refl _ _) (by omega) (by omega)).mono ?_; rintro e w5 ⟨x5, rfl, hx5, k5, o5⟩; have D5 : Hid (T10St B a0 len cap b w w5 g c) := ((DR.out.next (Below.refl _ _).drew)).draw o5 k5; have hS5 := And.intro D5.out.fil.c0 (And.intro D5.out.fil.c1 (And.intro D5.out.fil.c2 (And.intro D5.out.fil.c3 (And.intro D5.out.fil.c4 (And.intro D5.out.fil.c5 (And.intro D5.out.fil.c6 (And.intro D5.out.fil.c7 (And.intro D5.out.fil.c8 (D5.out.fil.c9))))))))))
          refine hK.out _ _ (by assumption) (fun _ => ?_)
          try simp only [Act.put, List.setIfInBounds_toArray, List.set_cons_zero, List.set_cons_succ, List.getElem_toArray, List.getElem_cons_succ, List.getElem_cons_zero]
          refine late_take (i := 3) (v := ?_) rfl (by kernel_rfl) (by kernel_rfl) (by kernel_rfl) (by kernel_rfl) (fun _ _ _ h => h) (Or.inl ⟨by rfl, ?_⟩) (by assumption) ?_
          rotate_left 1
          · (intro w' hSw; (try dsimp only at hSw); go_simp; try with_reducible rfl)
          try simp only [Act.put, List.setIfInBounds_toArray, List.set_cons_zero, List.set_cons_succ, List.getElem_toArray, List.getElem_cons_succ, List.getElem_cons_zero]
          refine late_one (i := 5) (by kernel_rfl) rfl (fun K hK => ?_)
          go_simp
          (refine (specCubicAck_some c _ _ _).mono ?_; rintro e w6 ⟨d, rfl, hb6⟩; have D6 : Hid (T10St B a0 len cap b w w6 g c) := D5.out.next hb6; have hS6 := And.intro D6.out.fil.c0 (And.intro D6.out.fil.c1 (And.intro D6.out.fil.c2 (And.intro D6.out.fil.c3 (And.intro D6.out.fil.c4 (And.intro D6.out.fil.c5 (And.intro D6.out.fil.c6 (And.intro D6.out.fil.c7 (And.intro D6.out.fil.c8 (D6.out.fil.c9))))))))); have hc0 := D6.out.fil.c0; have hc1 := D6.out.fil.c1; have hc2 := D6.out.fil.c2; have hc3 := D6.out.fil.c3; have hc4 := D6.out.fil.c4; have hc5 := D6.out.fil.c5; have hc6 := D6.out.fil.c6; have hc7 := D6.out.fil.c7; have hc8 := D6.out.fil.c8; have hc9 := D6.out.fil.c9; have hfr := D6.out.fil.fr; have hhi := D6.out.hi; have hlt := D6.out.lt)
          refine hK.out _ _ (by assumption) (fun _ => ?_)
          try simp only [Act.put, List.setIfInBounds_toArray, List.set_cons_zero, List.set_cons_succ, List.getElem_toArray, List.getElem_cons_succ, List.getElem_cons_zero]
          refine late_last (by kernel_rfl) rfl (by kernel_rfl) (fun K hK => ?_)
          go_simp
          refine hK.out _ _ ?_
          try simp only [Act.put, List.setIfInBounds_toArray, List.set_cons_zero, List.set_cons_succ, List.getElem_toArray, List.getElem_cons_succ, List.getElem_cons_zero]
          go_wp2
          go_meet
          exact ⟨_, d, rfl, D6.out.put d⟩
        · go_wp2_with (first
            | (go_at_call 39; refine (specCubicLoss_some c _).mono ?_; rintro e w6 ⟨d, rfl, hb6⟩; have D6 : Hid (T10St B a0 len cap b w w6 g c) := DR.out.next hb6; have hc0 := D6.out.fil.c0; have hc1 := D6.out.fil.c1; have hc2 := D6.out.fil.c2; have hc3 := D6.out.fil.c3; have hc4 := D6.out.fil.c4; have hc5 := D6.out.fil.c5; have hc6 := D6.out.fil.c6; have hc7 := D6.out.fil.c7; have hc8 := D6.out.fil.c8; have hc9 := D6.out.fil.c9; have hfr := D6.out.fil.fr; have hhi := D6.out.hi; have hlt := D6.out.lt))
          go_meet
          exact ⟨_, d, rfl, D6.out.put d⟩
        · go_wp2_with (first
            | (go_at_call 20; refine (specRenoTimeout_some c _).mono ?_; rintro e w6 ⟨d, rfl, hb6⟩; have D6 : Hid (T10St B a0 len cap b w w6 g c) := DR.out.next hb6; have hc0 := D6.out.fil.c0; have hc1 := D6.out.fil.c1; have hc2 := D6.out.fil.c2; have hc3 := D6.out.fil.c3; have hc4 := D6.out.fil.c4; have hc5 := D6.out.fil.c5; have hc6 := D6.out.fil.c6; have hc7 := D6.out.fil.c7; have hc8 := D6.out.fil.c8; have hc9 := D6.out.fil.c9; have hfr := D6.out.fil.fr; have hhi := D6.out.hi; have hlt := D6.out.lt))
          go_meet
          exact ⟨_, d, rfl, D6.out.put d⟩
      case rest =>
        obtain ⟨v, c, rfl, d⟩ := hcut
        have DE : Hid (T10St B a0 len cap b w wc g c) := d
        clear d
        go_wp2
        go_roundw
        case rel => exact ⟨j, v, c, rfl, by go_num, by omega, DE⟩
        case measure => first | (simp [intOf]; done) | (simp [intOf]; omega)
    | zero =>
      have hc0 := DR.out.fil.c0
      have hc1 := DR.out.fil.c1
      have hc2 := DR.out.fil.c2
      have hc3 := DR.out.fil.c3
      have hc4 := DR.out.fil.c4
      have hc5 := DR.out.fil.c5
      have hc6 := DR.out.fil.c6
      have hc7 := DR.out.fil.c7
      have hc8 := DR.out.fil.c8
      have hc9 := DR.out.fil.c9
      have hfr := DR.out.fil.fr
      have hhi := DR.out.hi
      have hlt := DR.out.lt
      have q0 := DR.out.res.c0
      have q1 := DR.out.res.c1
      have q2 := DR.out.res.c2
      have q3 := DR.out.res.c3
      have q4 := DR.out.res.c4
      have q5 := DR.out.res.c5
      have q6 := DR.out.res.c6
      have q7 := DR.out.res.c7
      have q8 := DR.out.res.c8
      have q9 := DR.out.res.c9
      have qf := DR.out.res.fr
      go_wp2
      refine bodyPost_ret (results_one rfl _ _ _ [.int .i64 c.k, .int .i64 c.wn, .int .i64 c.th, .int .i64 c.fl, .int .i64 c.ac, .int .i64 c.la, .int .i64 c.og, .int .i64 c.st, .int .i64 c.fr, .bool c.sl] rfl (ten_cells (DR.out.res.put c)) Try.underlying31 rfl (by kernel_rfl)) rfl ?_
      exact ⟨c, rfl, DR.out.done c⟩
end Go.Proofs.Ytmophpbfaonfmae
