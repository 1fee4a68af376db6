/- What spec.Queue answers. -/
import Derived.Test.YtdgefdjgpneanadSpecTurn
import Derived.Test.YtdgefdjgpneanadSpecCp8
import Derived.Test.YtdgefdjgpneanadFlwApp
import Derived.Test.YtdgefdjgpneanadGrpA
import Derived.Test.YtdgefdjgpneanadLate
import Derived.Deep.RegionHeld3
import Derived.Deep.DeepCutAuto
namespace Go.Proofs.Ytdgefdjgpneanad
open Go.ChangeShapes Go.WideShapes Go.ChangeAt Go.RowKit
set_option maxRecDepth 100000
set_option linter.unusedVariables false
set_option linter.unusedSimpArgs false

theorem put3_twoS {w : World} {g : Nat} (a b c : Value) {z0 z1 z2 : Value} (h0 : w.cell? ⟨g, 0, none⟩ = some z0) (h1 : w.cell? ⟨g, 1, none⟩ = some z1) (h2 : w.cell? ⟨g, 2, none⟩ = some z2) :
    ∀ j v, [a, b, c][j]? = some v → (((w.setCell ⟨g, 0, none⟩ a).setCell ⟨g, 1, none⟩ b).setCell ⟨g, 2, none⟩ c).cell? ⟨g, j, none⟩ = some v := by
  have h := put3_same (o := 0) a b c h0 h1 h2
  intro j v hv
  match j, hv with
  | 0, hv => obtain rfl : a = v := by simpa using hv
             exact h.1
  | 1, hv => obtain rfl : b = v := by simpa using hv
             exact h.2.1
  | 2, hv => obtain rfl : c = v := by simpa using hv
             exact h.2.2

set_option maxHeartbeats 16000000 in
theorem specQueue_any {w : World} {a : Option Addr} (c : Nat) {fs : List F8} (at' : Int) (fresh : Bool) (i n : Int) (h : Fls w.heap.size w a fs) (hm0 : fs.length ≤ 4611686018427387904) (hl0 : ∀ f ∈ fs, f.2.2.length ≤ 4611686018427387904) :
    Calls Try.prog 36 #[turnV a fs.length c at' fresh, .int .i64 i, .int .i64 n] w (TurnPost w (if queB fs at' fresh i n = true then queF fs i n else []) (if queB fs at' fresh i n = true then at' else 0) (queB fs at' fresh i n && fresh) (queB fs at' fresh i n)) := by
  obtain ⟨v, hv⟩ : ∃ v, v = (w.alloc (.cells #[.slice a fs.length c, .int .i64 at', .bool fresh] 48)).alloc (.cells #[.slice none 0 0, .int .i64 0, .bool false] 48) := ⟨_, rfl⟩
  have KV : Hid (Kept w [(w.heap.size, 0, .slice a fs.length c), (w.heap.size, 1, .int .i64 at'), (w.heap.size, 2, .bool fresh), (w.heap.size + 1, 0, .slice none 0 0), (w.heap.size + 1, 1, .int .i64 0), (w.heap.size + 1, 2, .bool false)] [w.heap.size + 1] v) := by
    rw [hv]
    refine ⟨⟨⟨by simp <;> omega, by go_simp⟩, ⟨by simp <;> omega, by go_simp⟩, ⟨by simp <;> omega, by go_simp⟩, ⟨by simp, by go_simp⟩, ⟨by simp, by go_simp⟩, ⟨by simp, by go_simp⟩, trivial⟩, fun b hb => ?_, by go_grown⟩
    simp only [List.mem_cons, List.not_mem_nil, or_false] at hb
    subst hb
    exact ⟨by simp, fun o => by go_simp⟩
  have hli : (fs.length : Int) ≤ 4611686018427387904 := by omega
  have ⟨⟨o0, e0⟩, ⟨o1, e1⟩, ⟨o2, e2⟩, ⟨o3, e3⟩, ⟨o4, e4⟩, ⟨o5, e5⟩, _⟩ := KV.out.cells
  cases ht : turnsB fs at' fresh
  · have hq : queB fs at' fresh i n = false := by unfold queB; rw [ht]; rfl
    rw [hq]
    have HT : Hid (turnsB fs at' fresh = false) := ht
    clear hq ht
    go_enter Try.func36, Try.ntmps36
    go_upto_region 1 with (fail)
    rw [← hv]
    clear hv
    go_wp2_with (first | (go_at_call 30; refine (specTurnsOk_any c at' fresh (h.here KV.out.hb) hm0 hl0).mono ?_; rintro e w2 ⟨rfl, hb2⟩; rw [HT.out]; have K2 : Hid (Kept w [(w.heap.size, 0, .slice a fs.length c), (w.heap.size, 1, .int .i64 at'), (w.heap.size, 2, .bool fresh), (w.heap.size + 1, 0, .slice none 0 0), (w.heap.size + 1, 1, .int .i64 0), (w.heap.size + 1, 2, .bool false)] [w.heap.size + 1] w2) := KV.out.next hb2; have ⟨⟨z0, k0⟩, ⟨z1, k1⟩, ⟨z2, k2⟩, ⟨z3, k3⟩, ⟨z4, k4⟩, ⟨z5, k5⟩, _⟩ := K2.out.cells; have fr1 := (K2.out.free (w.heap.size + 1) (by simp)).2))
    refine bodyPost_ret (results_two rfl _ _ _ [.slice none 0 0, .int .i64 0, .bool false] rfl (put3_twoS (z0 := .slice none 0 0) (z1 := .int .i64 0) (z2 := .bool false) _ _ _ k3 k4 k5) Try.underlying48 rfl (by kernel_rfl)) rfl ?_
    exact ⟨none, 0, rfl, TV.zero _ _ _ _ _, ((K2.out.hb.setCell (by simp) _).setCell (by simp) _).setCell (by simp) _⟩
  have HT : Hid (turnsB fs at' fresh = true) := ht
  have hok := turns_ok ht
  have hl30 : fs.length ≤ 30 := hok.l1
  have hl1 : 1 ≤ fs.length := hok.l0
  have hl30' : (fs.length : Int) ≤ 30 := by omega
  have HFL : Hid (∀ k (h : k < fs.length), fs[k].2.2.length ≤ 100) := fun k hk => (hok.flow k hk).len
  clear hok
  cases hin : inB 0 i ((fs.length : Int) - 1)
  · have hq : queB fs at' fresh i n = false := by unfold queB; rw [hin, Bool.and_false]; rfl
    rw [hq]
    clear hq ht
    go_enter Try.func36, Try.ntmps36
    go_upto_region 1 with (fail)
    rw [← hv]
    clear hv
    go_wp2_with (first | (go_at_call 30; refine (specTurnsOk_any c at' fresh (h.here KV.out.hb) hm0 hl0).mono ?_; rintro e w2 ⟨rfl, hb2⟩; rw [HT.out]; have K2 : Hid (Kept w [(w.heap.size, 0, .slice a fs.length c), (w.heap.size, 1, .int .i64 at'), (w.heap.size, 2, .bool fresh), (w.heap.size + 1, 0, .slice none 0 0), (w.heap.size + 1, 1, .int .i64 0), (w.heap.size + 1, 2, .bool false)] [w.heap.size + 1] w2) := KV.out.next hb2; have ⟨⟨z0, k0⟩, ⟨z1, k1⟩, ⟨z2, k2⟩, ⟨z3, k3⟩, ⟨z4, k4⟩, ⟨z5, k5⟩, _⟩ := K2.out.cells; have fr1 := (K2.out.free (w.heap.size + 1) (by simp)).2) | (go_at_call 73; refine (tIn_is hin _).mono ?_; rintro e w3 ⟨rfl, rfl⟩))
    refine bodyPost_ret (results_two rfl _ _ _ [.slice none 0 0, .int .i64 0, .bool false] rfl (put3_twoS (z0 := .slice none 0 0) (z1 := .int .i64 0) (z2 := .bool false) _ _ _ k3 k4 k5) Try.underlying48 rfl (by kernel_rfl)) rfl ?_
    exact ⟨none, 0, rfl, TV.zero _ _ _ _ _, ((K2.out.hb.setCell (by simp) _).setCell (by simp) _).setCell (by simp) _⟩
  cases hsg : sg n
  · have hq : queB fs at' fresh i n = false := by unfold queB; rw [hsg, Bool.and_false]; rfl
    rw [hq]
    clear hq ht
    go_enter Try.func36, Try.ntmps36
    go_upto_region 1 with (fail)
    rw [← hv]
    clear hv
    go_wp2_with (first | (go_at_call 30; refine (specTurnsOk_any c at' fresh (h.here KV.out.hb) hm0 hl0).mono ?_; rintro e w2 ⟨rfl, hb2⟩; rw [HT.out]; have K2 : Hid (Kept w [(w.heap.size, 0, .slice a fs.length c), (w.heap.size, 1, .int .i64 at'), (w.heap.size, 2, .bool fresh), (w.heap.size + 1, 0, .slice none 0 0), (w.heap.size + 1, 1, .int .i64 0), (w.heap.size + 1, 2, .bool false)] [w.heap.size + 1] w2) := KV.out.next hb2; have ⟨⟨z0, k0⟩, ⟨z1, k1⟩, ⟨z2, k2⟩, ⟨z3, k3⟩, ⟨z4, k4⟩, ⟨z5, k5⟩, _⟩ := K2.out.cells; have fr1 := (K2.out.free (w.heap.size + 1) (by simp)).2) | (go_at_call 73; refine (tIn_is hin _).mono ?_; rintro e w3 ⟨rfl, rfl⟩) | (go_at_call 89; refine (tSeg_is hsg _).mono ?_; rintro e w4 ⟨rfl, rfl⟩))
    refine bodyPost_ret (results_two rfl _ _ _ [.slice none 0 0, .int .i64 0, .bool false] rfl (put3_twoS (z0 := .slice none 0 0) (z1 := .int .i64 0) (z2 := .bool false) _ _ _ k3 k4 k5) Try.underlying48 rfl (by kernel_rfl)) rfl ?_
    exact ⟨none, 0, rfl, TV.zero _ _ _ _ _, ((K2.out.hb.setCell (by simp) _).setCell (by simp) _).setCell (by simp) _⟩
  have hnn := in_num hin
  obtain ⟨m, rfl⟩ : ∃ m : Nat, i = m := ⟨i.toNat, by omega⟩
  have hm : m < fs.length := by omega
  have hm' : (m : Int) < (fs.length : Int) := by omega
  have hns := in_num hsg
  have hns0 := hns.1
  have hns1 := hns.2
  obtain ⟨b, off, sa, sc, rfl, hbl, d0, d1, d2, sm⟩ := h m hm
  have hlx := HFL.out m hm
  have hqb : queB fs at' fresh (m : Int) n = !decide (fs[m].2.2.length = 100) := by
    unfold queB
    rw [ht, hin, hsg, Int.toNat_natCast, List.getElem?_eq_getElem hm]
    rfl
  have hqf : queF fs (m : Int) n = fs.set m (fs[m].1, fs[m].2.1, fs[m].2.2 ++ [n]) := by
    unfold queF
    rw [Int.toNat_natCast, List.getElem?_eq_getElem hm]
  obtain ⟨x, hx⟩ : ∃ x, fs[m] = x := ⟨_, rfl⟩
  rw [hx] at d2 hlx hqb hqf
  have HX : Hid (fs[m] = x) := hx
  clear hx d0 d1 sm hns hnn ht
  obtain ⟨q, d, xs⟩ := x
  simp only at d2 hlx hqb hqf
  by_cases h100 : xs.length = 100
  · have hq : queB fs at' fresh (m : Int) n = false := by rw [hqb, decide_eq_true h100]; rfl
    rw [hq]
    rw [h100] at d2
    clear hq hqb hqf
    go_enter Try.func36, Try.ntmps36
    go_upto_region 1 with (fail)
    rw [← hv]
    clear hv
    go_wp2_with (first | (go_at_call 30; refine (specTurnsOk_any c at' fresh (h.here KV.out.hb) hm0 hl0).mono ?_; rintro e w2 ⟨rfl, hb2⟩; rw [HT.out]; have K2 : Hid (Kept w [(w.heap.size, 0, .slice (some ⟨b, off, none⟩) fs.length c), (w.heap.size, 1, .int .i64 at'), (w.heap.size, 2, .bool fresh), (w.heap.size + 1, 0, .slice none 0 0), (w.heap.size + 1, 1, .int .i64 0), (w.heap.size + 1, 2, .bool false)] [w.heap.size + 1] w2) := KV.out.next hb2; have ⟨⟨z0, k0⟩, ⟨z1, k1⟩, ⟨z2, k2⟩, ⟨z3, k3⟩, ⟨z4, k4⟩, ⟨z5, k5⟩, _⟩ := K2.out.cells; have fr1 := (K2.out.free (w.heap.size + 1) (by simp)).2; have g2 := (K2.out.hb.cell (p := ⟨b, off + m * 3 + 2, none⟩) hbl).trans d2) | (go_at_call 73; refine (tIn_is hin _).mono ?_; rintro e w3 ⟨rfl, rfl⟩) | (go_at_call 89; refine (tSeg_is hsg _).mono ?_; rintro e w4 ⟨rfl, rfl⟩))
    refine bodyPost_ret (results_two rfl _ _ _ [.slice none 0 0, .int .i64 0, .bool false] rfl (put3_twoS (z0 := .slice none 0 0) (z1 := .int .i64 0) (z2 := .bool false) _ _ _ k3 k4 k5) Try.underlying48 rfl (by kernel_rfl)) rfl ?_
    exact ⟨none, 0, rfl, TV.zero _ _ _ _ _, ((K2.out.hb.setCell (by simp) _).setCell (by simp) _).setCell (by simp) _⟩
  · have hq : queB fs at' fresh (m : Int) n = true := by rw [hqb, decide_eq_false h100]; rfl
    have h100' : ((xs.length : Int) == 100) = false := by rw [beq_eq_false_iff_ne]; omega
    rw [hq, hqf, if_pos rfl, if_pos rfl, Bool.true_and]
    clear hq hqb hqf
    obtain ⟨i0, hi, hz0, hz1, hz2⟩ := info_parts info_int
    go_enter Try.func36, Try.ntmps36
    go_upto_region 1 with (fail)
    rw [← hv]
    clear hv
    go_upto_region 3 with (first | (go_at_call 30; refine (specTurnsOk_any c at' fresh (h.here KV.out.hb) hm0 hl0).mono ?_; rintro e w2 ⟨rfl, hb2⟩; rw [HT.out]; have K2 : Hid (Kept w [(w.heap.size, 0, .slice (some ⟨b, off, none⟩) fs.length c), (w.heap.size, 1, .int .i64 at'), (w.heap.size, 2, .bool fresh), (w.heap.size + 1, 0, .slice none 0 0), (w.heap.size + 1, 1, .int .i64 0), (w.heap.size + 1, 2, .bool false)] [w.heap.size + 1] w2) := KV.out.next hb2; have ⟨⟨z0, k0⟩, ⟨z1, k1⟩, ⟨z2, k2⟩, ⟨z3, k3⟩, ⟨z4, k4⟩, ⟨z5, k5⟩, _⟩ := K2.out.cells; have fr1 := (K2.out.free (w.heap.size + 1) (by simp)).2; have g2 := (K2.out.hb.cell (p := ⟨b, off + m * 3 + 2, none⟩) hbl).trans d2) | (go_at_call 73; refine (tIn_is hin _).mono ?_; rintro e w3 ⟨rfl, rfl⟩) | (go_at_call 89; refine (tSeg_is hsg _).mono ?_; rintro e w4 ⟨rfl, rfl⟩))
    obtain ⟨vT, hvT⟩ : ∃ vT, vT = w4 := ⟨_, rfl⟩
    rw [← hvT]
    have KT : Hid (Kept w [(w.heap.size, 0, .slice (some ⟨b, off, none⟩) fs.length c), (w.heap.size, 1, .int .i64 at'), (w.heap.size, 2, .bool fresh), (w.heap.size + 1, 0, .slice none 0 0), (w.heap.size + 1, 1, .int .i64 0), (w.heap.size + 1, 2, .bool false)] [w.heap.size + 1] vT) := by rw [hvT]; exact K2.out
    clear hvT
    have ⟨⟨t0, y0⟩, ⟨t1, y1⟩, ⟨t2, y2⟩, ⟨t3, y3⟩, ⟨t4, y4⟩, ⟨t5, y5⟩, _⟩ := KT.out.cells
    have hvT : w.heap.size + 1 < vT.heap.size := t3
    go_upto_region 4 with (first | (go_at_call 81; refine (l8Copy_any c at' fresh (h.here KT.out.hb) (by omega) (by omega) (fun f hf => by obtain ⟨k, hk, rfl⟩ := List.mem_iff_getElem.1 hf; have := HFL.out k hk; omega)).mono ?_; rintro e w5 ⟨g, cap, vs, rfl, hcap, fr, hb5⟩))
    obtain ⟨v8, hv8⟩ : ∃ v, v = w5.alloc (.cells #[.slice (some ⟨g, 0, none⟩) fs.length cap, .int .i64 at', .bool fresh] 48) := ⟨_, rfl⟩
    rw [← hv8]
    have hbA : Below w5.heap.size w5 v8 := by rw [hv8]; exact newB _ _
    have cA0 : v8.cell? ⟨w5.heap.size, 0, none⟩ = some (.slice (some ⟨g, 0, none⟩) fs.length cap) := by rw [hv8]; go_simp
    have cA1 : v8.cell? ⟨w5.heap.size, 1, none⟩ = some (.int .i64 at') := by rw [hv8]; go_simp
    have cA2 : v8.cell? ⟨w5.heap.size, 2, none⟩ = some (.bool fresh) := by rw [hv8]; go_simp
    have zA : w5.heap.size < v8.heap.size := by rw [hv8]; simp
    clear hv8
    obtain ⟨b8, hb8e⟩ : ∃ b, b = w5.heap.size := ⟨_, rfl⟩
    rw [← hb8e] at cA0 cA1 cA2 ⊢
    have yb8 : b8 < v8.heap.size := by omega
    have lb8 : w5.heap.size ≤ b8 ∧ b8 ≤ w5.heap.size := by omega
    clear hb8e
    have HFR : Hid (FR v8 vT.heap.size w5.heap.size g fs.length vs fs) := fr.next hbA
    have K8 : Hid (Kept w [(w.heap.size, 0, .slice (some ⟨b, off, none⟩) fs.length c), (w.heap.size, 1, .int .i64 at'), (w.heap.size, 2, .bool fresh), (w.heap.size + 1, 0, .slice none 0 0), (w.heap.size + 1, 1, .int .i64 0), (w.heap.size + 1, 2, .bool false)] [w.heap.size + 1] v8) := (KT.out.next hb5).next hbA
    have hmv : m < vs.length := by rw [fr.fo.len]; exact hm
    have hrow := HFR.out.row m hm hmv
    have hsep := fr.sep m hmv
    obtain ⟨_, _, d2⟩ := HFR.out.fo.got m hm hmv
    rw [HX.out] at hrow
    obtain ⟨sv, cv, hVM⟩ := own_slice hrow
    rw [hVM] at hrow d2 hsep
    have HVM : Hid (vs[m] = .slice sv xs.length cv) := hVM
    have HROW : Hid (v8.ownsRow vT.heap.size 2 1 (.slice sv xs.length cv) xs.length (flatI xs)) := hrow
    have HSEP : Hid (∀ b, (Value.slice sv xs.length cv).ownBlock = some b → b ≠ g ∧ b < w5.heap.size) := fun b e => ⟨(hsep b e).1, (hsep b e).2.1⟩
    have dz2 := (HFR.out.fo.any (m * 3 + 2) (by omega)).2
    have hgl : g < v8.heap.size := by have := HFR.out.fo.g1; omega
    have hg0 := HFR.out.fo.g0
    have hgb := HFR.out.fo.g1
    have HW8 : Hid (Below v8.heap.size v8 (v8.drew.alloc (.cells #[.int .i64 n] 2))) := (Below.refl _ _).drew.alloc (Nat.le_refl _) _
    have HS : Hid (∀ w', Below v8.heap.size v8 w' → (fun w' => w'.cell? ⟨b8, 0, none⟩ = some (.slice (some ⟨g, 0, none⟩) fs.length cap) ∧ w'.cell? ⟨g, m * 3 + 2, none⟩ = some (.slice sv xs.length cv)) w') := fun w' hw => ⟨(hw.cell (p := ⟨b8, 0, none⟩) yb8).trans cA0, (hw.cell (p := ⟨g, m * 3 + 2, none⟩) hgl).trans d2⟩
    clear hVM hrow hsep fr z0 z1 z2 z3 z4 z5 k0 k1 k2 k3 k4 k5 t0 t1 t2 t4 t5 o0 o1 o2 o3 o4 o5 KT
    refine region_late (S := fun w' => w'.cell? ⟨b8, 0, none⟩ = some (.slice (some ⟨g, 0, none⟩) fs.length cap) ∧ w'.cell? ⟨g, m * 3 + 2, none⟩ = some (.slice sv xs.length cv)) 14 (by kernel_rfl) (HS.out _ (Below.refl _ _).drew) (fun hS => ?_)
    refine late_take (i := 0) (v := ?_) rfl (by kernel_rfl) (by kernel_rfl) (by kernel_rfl) (by kernel_rfl) (fun _ _ _ h => h) (Or.inl ⟨by rfl, ?_⟩) (by assumption) ?_
    rotate_left 1
    · (intro w' hSw; (try dsimp only at hSw); go_simp; try with_reducible rfl)
    try simp only [Act.put, List.setIfInBounds_toArray, List.set_cons_zero, List.set_cons_succ, List.getElem_toArray, List.getElem_cons_succ, List.getElem_cons_zero]
    refine late_take (i := 1) (v := ?_) rfl (by kernel_rfl) (by kernel_rfl) (by kernel_rfl) (by kernel_rfl) (fun _ _ _ h => h) (Or.inl ⟨by rfl, ?_⟩) (by assumption) ?_
    rotate_left 1
    · (intro w' hSw; (try dsimp only at hSw); go_simp; try with_reducible rfl)
    try simp only [Act.put, List.setIfInBounds_toArray, List.set_cons_zero, List.set_cons_succ, List.getElem_toArray, List.getElem_cons_succ, List.getElem_cons_zero]
    refine late_take (i := 2) (v := ?_) rfl (by kernel_rfl) (by kernel_rfl) (by kernel_rfl) (by kernel_rfl) (fun _ _ _ h => h) (Or.inl ⟨by rfl, ?_⟩) (by assumption) ?_
    rotate_left 1
    · (intro w' hSw; (try dsimp only at hSw); go_simp; try with_reducible rfl)
    try simp only [Act.put, List.setIfInBounds_toArray, List.set_cons_zero, List.set_cons_succ, List.getElem_toArray, List.getElem_cons_succ, List.getElem_cons_zero]
    refine late_take (i := 3) (v := ?_) rfl (by kernel_rfl) (by kernel_rfl) (by kernel_rfl) (by kernel_rfl) (fun _ _ _ h => h) (Or.inl ⟨by rfl, ?_⟩) (by assumption) ?_
    rotate_left 1
    · (intro w' hSw; (try dsimp only at hSw); go_simp; try with_reducible rfl)
    try simp only [Act.put, List.setIfInBounds_toArray, List.set_cons_zero, List.set_cons_succ, List.getElem_toArray, List.getElem_cons_succ, List.getElem_cons_zero]
    refine late_take (i := 4) (v := ?_) rfl (by kernel_rfl) (by kernel_rfl) (by kernel_rfl) (by kernel_rfl) (fun _ _ _ h => h) (Or.inl ⟨by rfl, ?_⟩) (by assumption) ?_
    rotate_left 1
    · (intro w' hSw; (try dsimp only at hSw); go_simp; try with_reducible rfl)
    try simp only [Act.put, List.setIfInBounds_toArray, List.set_cons_zero, List.set_cons_succ, List.getElem_toArray, List.getElem_cons_succ, List.getElem_cons_zero]
    refine late_take (i := 5) (v := ?_) rfl (by kernel_rfl) (by kernel_rfl) (by kernel_rfl) (by kernel_rfl) (fun _ _ _ h => h) (Or.inl ⟨by rfl, ?_⟩) (by assumption) ?_
    rotate_left 1
    · (intro w' hSw; (try dsimp only at hSw); go_simp; try with_reducible rfl)
    try simp only [Act.put, List.setIfInBounds_toArray, List.set_cons_zero, List.set_cons_succ, List.getElem_toArray, List.getElem_cons_succ, List.getElem_cons_zero]
    refine late_take (i := 6) (v := ?_) rfl (by kernel_rfl) (by kernel_rfl) (by kernel_rfl) (by kernel_rfl) (fun _ _ _ h => h) (Or.inl ⟨by rfl, ?_⟩) (by assumption) ?_
    rotate_left 1
    · (intro w' hSw; (try dsimp only at hSw); go_simp; try with_reducible rfl)
    try simp only [Act.put, List.setIfInBounds_toArray, List.set_cons_zero, List.set_cons_succ, List.getElem_toArray, List.getElem_cons_succ, List.getElem_cons_zero]
    refine late_take (i := 7) (v := ?_) rfl (by kernel_rfl) (by kernel_rfl) (by kernel_rfl) (by kernel_rfl) (fun _ _ _ h => h) (Or.inl ⟨by rfl, ?_⟩) (by assumption) ?_
    rotate_left 1
    · (intro w' hSw; (try dsimp only at hSw); go_simp; try with_reducible rfl)
    try simp only [Act.put, List.setIfInBounds_toArray, List.set_cons_zero, List.set_cons_succ, List.getElem_toArray, List.getElem_cons_succ, List.getElem_cons_zero]
    refine late_take (i := 8) (v := ?_) rfl (by kernel_rfl) (by kernel_rfl) (by kernel_rfl) (by kernel_rfl) (fun _ _ _ h => h) (Or.inl ⟨by rfl, ?_⟩) (by assumption) ?_
    rotate_left 1
    · (intro w' hSw; (try dsimp only at hSw); go_simp; try with_reducible rfl)
    try simp only [Act.put, List.setIfInBounds_toArray, List.set_cons_zero, List.set_cons_succ, List.getElem_toArray, List.getElem_cons_succ, List.getElem_cons_zero]
    refine late_take (i := 9) (v := ?_) rfl (by kernel_rfl) (by kernel_rfl) (by kernel_rfl) (by kernel_rfl) (fun _ _ _ h => h) (Or.inl ⟨by rfl, ?_⟩) (by assumption) ?_
    rotate_left 1
    · (intro w' hSw; (try dsimp only at hSw); go_simp; try with_reducible rfl)
    try simp only [Act.put, List.setIfInBounds_toArray, List.set_cons_zero, List.set_cons_succ, List.getElem_toArray, List.getElem_cons_succ, List.getElem_cons_zero]
    refine late_one (i := 10) (by kernel_rfl) rfl (fun K hK => ?_)
    go_simp
    refine hK.out _ _ (HS.out _ HW8.out) (fun hS => ?_)
    try simp only [Act.put, List.setIfInBounds_toArray, List.set_cons_zero, List.set_cons_succ, List.getElem_toArray, List.getElem_cons_succ, List.getElem_cons_zero]
    refine late_one (i := 11) (by kernel_rfl) rfl (fun K hK => ?_)
    rw [if_pos (by rfl)]
    refine wp_append_two _ _ _ 51 rfl vT.heap.size 2 i0 _ 1 8 Try.underlying51 hi hz0 hz1 hz2 rfl (by decide) _ _ _ rfl (row_next HROW.out HW8.out) ⟨v8.heap.size, 0, none⟩ 1 1 [.int .i64 n] rfl rfl (one_news (by go_simp)) (fun u hu => by rw [List.mem_singleton] at hu; subst hu; rfl) (by unfold maxLen; omega) (by omega) (by have := HFR.out.fo.g0; have := HFR.out.fo.g1; have := HFR.out.fo.top; simp; omega) (by decide) ?_
    intro v' w6 own6 gr6 two6
    obtain ⟨fa, fc, rfl⟩ := own_slice own6
    have hz6 := gr6.size
    have hsame : ∀ b, b < v8.heap.size → (Value.slice sv xs.length cv).ownBlock ≠ some b → w6.heap[b]? = v8.heap[b]? := fun b h1 h2 => (gr6.block b (by simp; omega) (fun e => h2 e.symm)).trans (HW8.out.block b h1)
    have hbn : (Value.slice sv xs.length cv).ownBlock ≠ some b8 := fun e => by have := (HSEP.out b8 e).2; omega
    have hgn : (Value.slice sv xs.length cv).ownBlock ≠ some g := fun e => (HSEP.out g e).1 rfl
    have u0 : w6.cell? ⟨b8, 0, none⟩ = some (.slice (some ⟨g, 0, none⟩) fs.length cap) := (World.cell?_of_block (a := ⟨b8, 0, none⟩) (hsame b8 yb8 hbn)).trans cA0
    have u1 : w6.cell? ⟨b8, 1, none⟩ = some (.int .i64 at') := (World.cell?_of_block (a := ⟨b8, 1, none⟩) (hsame b8 yb8 hbn)).trans cA1
    have u2 : w6.cell? ⟨b8, 2, none⟩ = some (.bool fresh) := (World.cell?_of_block (a := ⟨b8, 2, none⟩) (hsame b8 yb8 hbn)).trans cA2
    have u3 : w6.cell? ⟨g, m * 3 + 2, none⟩ = some (.slice sv xs.length cv) := (World.cell?_of_block (a := ⟨g, m * 3 + 2, none⟩) (hsame g hgl hgn)).trans d2
    have u4 : w6.frozen? ⟨g, m * 3 + 2, none⟩ = false := (World.frozen?_of_block (a := ⟨g, m * 3 + 2, none⟩) (hsame g hgl hgn)).trans dz2
    have FF : Hid (FO (w6.setCell ⟨g, m * 3 + 2, none⟩ (.slice fa (xs.length + 1) fc)) vT.heap.size w6.heap.size g fs.length (vs.set m (.slice fa (xs.length + 1) fc)) (fs.set m (q, d, xs ++ [n]))) := by
      have k := HFR.out.queued (x := n) hm hmv HW8.out (by rw [HX.out]; exact own6) (by rw [HVM.out]; exact gr6) (by rw [HVM.out]; exact two6)
      rw [HX.out] at k
      exact k
    have KA6 : Hid (Kept w [(w.heap.size, 0, .slice (some ⟨b, off, none⟩) fs.length c), (w.heap.size, 1, .int .i64 at'), (w.heap.size, 2, .bool fresh), (w.heap.size + 1, 0, .slice none 0 0), (w.heap.size + 1, 1, .int .i64 0), (w.heap.size + 1, 2, .bool false)] [w.heap.size + 1] w6) := (K8.out.next HW8.out).onlyO (OnlyO.of_grown gr6) (fun j e => by have := HROW.out.lt j e; have := hvT; omega) (fun c hc e => by (have := HROW.out.lt c.1 e; have := hvT; simp only [List.mem_cons, List.not_mem_nil, or_false] at hc; rcases hc with rfl | rfl | rfl | rfl | rfl | rfl <;> simp only at this <;> omega)) (fun b hb e => by (have := HROW.out.lt b e; have := hvT; simp only [List.mem_cons, List.not_mem_nil, or_false] at hb; omega))
    refine hK.out _ _ ⟨u0, u3⟩ (fun hS => ?_)
    try simp only [Act.put, List.setIfInBounds_toArray, List.set_cons_zero, List.set_cons_succ, List.getElem_toArray, List.getElem_cons_succ, List.getElem_cons_zero]
    refine late_one (i := 12) (by kernel_rfl) rfl (fun K hK => ?_)
    go_simp
    refine hK.out _ _ (by assumption) (fun _ => ?_)
    try simp only [Act.put, List.setIfInBounds_toArray, List.set_cons_zero, List.set_cons_succ, List.getElem_toArray, List.getElem_cons_succ, List.getElem_cons_zero]
    refine late_take (i := 13) (v := ?_) rfl (by kernel_rfl) (by kernel_rfl) (by kernel_rfl) (by kernel_rfl) (fun _ _ _ h => h) (Or.inl ⟨by rfl, ?_⟩) (by assumption) ?_
    rotate_left 1
    · (intro w' hSw; (try dsimp only at hSw); go_simp; try with_reducible rfl)
    try simp only [Act.put, List.setIfInBounds_toArray, List.set_cons_zero, List.set_cons_succ, List.getElem_toArray, List.getElem_cons_succ, List.getElem_cons_zero]
    refine late_last (by kernel_rfl) rfl (by kernel_rfl) (fun K hK => ?_)
    go_simp
    refine hK.out _ _ ?_
    try simp only [Act.put, List.setIfInBounds_toArray, List.set_cons_zero, List.set_cons_succ, List.getElem_toArray, List.getElem_cons_succ, List.getElem_cons_zero]
    obtain ⟨w7, hw7⟩ : ∃ w7, w7 = w6.setCell ⟨g, m * 3 + 2, none⟩ (.slice fa (xs.length + 1) fc) := ⟨_, rfl⟩
    have FF7 : Hid (FO w7 vT.heap.size w6.heap.size g fs.length (vs.set m (.slice fa (xs.length + 1) fc)) (fs.set m (q, d, xs ++ [n]))) := by rw [hw7]; exact FF.out
    have hz7 : w7.heap.size ≤ w6.heap.size ∧ w6.heap.size ≤ w7.heap.size := by rw [hw7]; simp
    have q0 : w7.cell? ⟨b8, 0, none⟩ = some (.slice (some ⟨g, 0, none⟩) fs.length cap) := by rw [hw7]; exact (set_far (by show g ≠ b8; omega)).trans u0
    have q1 : w7.cell? ⟨b8, 1, none⟩ = some (.int .i64 at') := by rw [hw7]; exact (set_far (by show g ≠ b8; omega)).trans u1
    have q2 : w7.cell? ⟨b8, 2, none⟩ = some (.bool fresh) := by rw [hw7]; exact (set_far (by show g ≠ b8; omega)).trans u2
    have KA7 : Hid (Kept w [(w.heap.size, 0, .slice (some ⟨b, off, none⟩) fs.length c), (w.heap.size, 1, .int .i64 at'), (w.heap.size, 2, .bool fresh), (w.heap.size + 1, 0, .slice none 0 0), (w.heap.size + 1, 1, .int .i64 0), (w.heap.size + 1, 2, .bool false)] [w.heap.size + 1] w7) := by
      rw [hw7]
      refine KA6.out.onlyO (row := some g) (OnlyO.of_only ((Only.refl g w6).setCell rfl _)) (fun j e => by have e := Option.some.inj e; omega) (fun c hc e => ?_) (fun b hb e => ?_)
      · have e := Option.some.inj e
        simp only [List.mem_cons, List.not_mem_nil, or_false] at hc
        rcases hc with rfl | rfl | rfl | rfl | rfl | rfl <;> simp only at e <;> omega
      · have e := Option.some.inj e
        simp only [List.mem_cons, List.not_mem_nil, or_false] at hb
        omega
    rw [← hw7]
    clear hw7 u0 u1 u2 u3 u4 FF KA6
    have ⟨⟨p0, n0⟩, ⟨p1, n1⟩, ⟨p2, n2⟩, ⟨p3, n3⟩, ⟨p4, n4⟩, ⟨p5, n5⟩, _⟩ := KA7.out.cells
    have fr7 := (KA7.out.free (w.heap.size + 1) (by simp)).2
    go_wp2
    refine bodyPost_ret (results_two rfl _ _ _ [.slice (some ⟨g, 0, none⟩) fs.length cap, .int .i64 at', .bool fresh] rfl (put3_twoS (z0 := .slice none 0 0) (z1 := .int .i64 0) (z2 := .bool false) _ _ _ n3 n4 n5) Try.underlying48 rfl (by kernel_rfl)) rfl ?_
    have hI : OnlyI (w.heap.size + 1) (w.heap.size + 2) w7 (((w7.setCell ⟨w.heap.size + 1, 0, none⟩ (.slice (some ⟨g, 0, none⟩) fs.length cap)).setCell ⟨w.heap.size + 1, 1, none⟩ (.int .i64 at')).setCell ⟨w.heap.size + 1, 2, none⟩ (.bool fresh)) :=
      (((OnlyI.refl _ _ _).setCell (by omega) (by omega) _).setCell (by omega) (by omega) _).setCell (by omega) (by omega) _
    have hL : (fs.set m (q, d, xs ++ [n])).length = fs.length := List.length_set
    have hT : TV w7 vT.heap.size w6.heap.size (.slice (some ⟨g, 0, none⟩) (fs.set m (q, d, xs ++ [n])).length cap) (fs.set m (q, d, xs ++ [n])) := .inl ⟨g, cap, _, rfl, by omega, by rw [hL]; exact FF7.out⟩
    have hT2 := (hT.onlyI hI (.inr (by omega))).wider (lo' := w.heap.size) (hi' := w7.heap.size) (by omega) (by omega) (by simp)
    refine ⟨some ⟨g, 0, none⟩, cap, (by rw [hL]; rfl), ?_, ?_⟩
    · have hsz : (((w7.setCell ⟨w.heap.size + 1, 0, none⟩ (.slice (some ⟨g, 0, none⟩) fs.length cap)).setCell ⟨w.heap.size + 1, 1, none⟩ (.int .i64 at')).setCell ⟨w.heap.size + 1, 2, none⟩ (.bool fresh)).heap.size = w7.heap.size := by simp
      rw [hsz]
      exact hT2
    · exact KA7.out.hb.trans (hI.below (by omega) (by omega))
end Go.Proofs.Ytdgefdjgpneanad
