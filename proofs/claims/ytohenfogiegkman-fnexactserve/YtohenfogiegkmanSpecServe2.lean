/- What spec.Serve answers. -/
import Derived.Test.YtohenfogiegkmanSpecTurn
import Derived.Test.YtohenfogiegkmanSpecCp8
import Derived.Test.YtohenfogiegkmanSpecServe
import Derived.Test.YtohenfogiegkmanSrvMath
import Derived.Test.YtohenfogiegkmanGrpC
import Derived.Deep.RegionHeld3
import Derived.Deep.DeepCutAuto
namespace Go.Proofs.Ytohenfogiegkman
open Go.ChangeShapes Go.WideShapes Go.ChangeAt Go.RowKit
set_option maxRecDepth 100000
set_option linter.unusedVariables false
set_option linter.unusedSimpArgs false

set_option maxHeartbeats 8000000 in
theorem specServe_any {w : World} {a : Option Addr} (c : Nat) {fs : List F8} (at' : Int) (fresh : Bool) (h : Fls w.heap.size w a fs) (hm0 : fs.length ≤ 4611686018427387904) (hl0 : ∀ f ∈ fs, f.2.2.length ≤ 4611686018427387904) :
    Calls Try.prog 10 #[turnV a fs.length c at' fresh] w (TurnPost3 w (srvY fs at' fresh) (srvYa fs at' fresh) (srvYf fs at' fresh) (srvYi fs at' fresh) (srvYn fs at' fresh)) := by
  obtain ⟨v, hv⟩ : ∃ v, v = (w.alloc (.cells #[.slice a fs.length c, .int .i64 at', .bool fresh] 28)).alloc (.cells #[.slice none 0 0, .int .i64 0, .bool false] 28) := ⟨_, rfl⟩
  have KV : Hid (Kept w [(w.heap.size, 0, .slice a fs.length c), (w.heap.size, 1, .int .i64 at'), (w.heap.size, 2, .bool fresh), (w.heap.size + 1, 0, .slice none 0 0), (w.heap.size + 1, 1, .int .i64 0), (w.heap.size + 1, 2, .bool false)] [w.heap.size + 1] v) := by
    rw [hv]
    refine ⟨⟨⟨by simp <;> omega, by go_simp⟩, ⟨by simp <;> omega, by go_simp⟩, ⟨by simp <;> omega, by go_simp⟩, ⟨by simp, by go_simp⟩, ⟨by simp, by go_simp⟩, ⟨by simp, by go_simp⟩, trivial⟩, fun b hb => ?_, by go_grown⟩
    simp only [List.mem_cons, List.not_mem_nil, or_false] at hb
    subst hb
    exact ⟨by simp, fun o => by go_simp⟩
  have hli : (fs.length : Int) ≤ 4611686018427387904 := by omega
  have ⟨⟨o0, c0⟩, ⟨o1, c1⟩, ⟨o2, c2⟩, ⟨o3, c3⟩, ⟨o4, c4⟩, ⟨o5, c5⟩, _⟩ := KV.out.cells
  cases ht : turnsB fs at' fresh
  · have e0 : srvY fs at' fresh = [] := if_neg (by rw [ht]; decide)
    have e1 : srvYa fs at' fresh = 0 := if_neg (by rw [ht]; decide)
    have e2 : srvYf fs at' fresh = false := if_neg (by rw [ht]; decide)
    have e3 : srvYi fs at' fresh = -1 := if_neg (by rw [ht]; decide)
    have e4 : srvYn fs at' fresh = 0 := if_neg (by rw [ht]; decide)
    rw [e0, e1, e2, e3, e4]
    have HT : Hid (turnsB fs at' fresh = false) := ht
    clear e0 e1 e2 e3 e4 ht
    go_enter Try.func10, Try.ntmps10
    go_upto_region 1 with (fail)
    rw [← hv]
    clear hv
    go_wp2_with (first | (go_at_call 32; refine (specTurnsOk_any c at' fresh (h.here KV.out.hb) hm0 hl0).mono ?_; rintro e w2 ⟨rfl, hb2⟩; rw [HT.out]; have K2 : Hid (Kept w [(w.heap.size, 0, .slice a fs.length c), (w.heap.size, 1, .int .i64 at'), (w.heap.size, 2, .bool fresh), (w.heap.size + 1, 0, .slice none 0 0), (w.heap.size + 1, 1, .int .i64 0), (w.heap.size + 1, 2, .bool false)] [w.heap.size + 1] w2) := KV.out.next hb2; have ⟨⟨z0, k0⟩, ⟨z1, k1⟩, ⟨z2, k2⟩, ⟨z3, k3⟩, ⟨z4, k4⟩, ⟨z5, k5⟩, _⟩ := K2.out.cells; have fr1 := (K2.out.free (w.heap.size + 1) (by simp)).2))
    refine bodyPost_ret (results_tri3 rfl _ _ _ [.slice none 0 0, .int .i64 0, .bool false] rfl (put3_res (z0 := .slice none 0 0) (z1 := .int .i64 0) (z2 := .bool false) _ _ _ k3 k4 k5) Try.underlying28 rfl (by kernel_rfl)) rfl ?_
    exact ⟨none, 0, rfl, TV.zero _ _ _ _ _, ((K2.out.hb.setCell (by simp) _).setCell (by simp) _).setCell (by simp) _⟩
  · have e0 : srvY fs at' fresh = srvFs fs at' fresh := if_pos ht
    have e1 : srvYa fs at' fresh = srvAt fs at' fresh := if_pos ht
    have e2 : srvYf fs at' fresh = srvFr fs at' fresh := if_pos ht
    have e3 : srvYi fs at' fresh = srvI fs at' fresh := if_pos ht
    have e4 : srvYn fs at' fresh = srvN fs at' fresh := if_pos ht
    rw [e0, e1, e2, e3, e4]
    have HT : Hid (turnsB fs at' fresh = true) := ht
    have HOK : Hid (TurnsOk fs at' fresh) := turns_ok ht
    have hl30 := HOK.out.l1
    have hl1 := HOK.out.l0
    have HFL : Hid (∀ f ∈ fs, f.2.2.length ≤ 1048576) := fun f hf => by
      obtain ⟨k, hk, rfl⟩ := List.mem_iff_getElem.1 hf
      have := (HOK.out.flow k hk).len
      omega
    clear e0 e1 e2 e3 e4 ht
    go_enter Try.func10, Try.ntmps10
    go_upto_region 1 with (fail)
    rw [← hv]
    clear hv
    go_upto_region 3 with (first | (go_at_call 32; refine (specTurnsOk_any c at' fresh (h.here KV.out.hb) hm0 hl0).mono ?_; rintro e w2 ⟨rfl, hb2⟩; rw [HT.out]; have K2 : Hid (Kept w [(w.heap.size, 0, .slice a fs.length c), (w.heap.size, 1, .int .i64 at'), (w.heap.size, 2, .bool fresh), (w.heap.size + 1, 0, .slice none 0 0), (w.heap.size + 1, 1, .int .i64 0), (w.heap.size + 1, 2, .bool false)] [w.heap.size + 1] w2) := KV.out.next hb2; have ⟨⟨z0, k0⟩, ⟨z1, k1⟩, ⟨z2, k2⟩, ⟨z3, k3⟩, ⟨z4, k4⟩, ⟨z5, k5⟩, _⟩ := K2.out.cells; have fr1 := (K2.out.free (w.heap.size + 1) (by simp)).2))
    have hz2 : w.heap.size + 1 < w2.heap.size := z3
    go_upto_region 4 with (first | (go_at_call 33; refine (l8Copy_any c at' fresh (h.here K2.out.hb) (by omega) (by omega) HFL.out).mono ?_; rintro e w3 ⟨g, cap, vs, rfl, hcap, fr3, hb3⟩; have FR3 : Hid (FR w3 w2.heap.size w3.heap.size g fs.length vs fs) := fr3; clear fr3; have K3 : Hid (Kept w [(w.heap.size, 0, .slice a fs.length c), (w.heap.size, 1, .int .i64 at'), (w.heap.size, 2, .bool fresh), (w.heap.size + 1, 0, .slice none 0 0), (w.heap.size + 1, 1, .int .i64 0), (w.heap.size + 1, 2, .bool false)] [w.heap.size + 1] w3) := K2.out.next hb3; have ⟨⟨y0, j0⟩, ⟨y1, j1⟩, ⟨y2, j2⟩, ⟨y3, j3⟩, ⟨y4, j4⟩, ⟨y5, j5⟩, _⟩ := K3.out.cells; have hz3 := hb3.size))
    clear z0 z1 z2 z3 z4 z5 k0 k1 k2 k3 k4 k5 fr1
    obtain ⟨v8, hv8⟩ : ∃ v8, v8 = w3.alloc (.cells #[.slice (some ⟨g, 0, none⟩) fs.length cap, .int .i64 at', .bool fresh] 28) := ⟨_, rfl⟩
    rw [← hv8]
    have hbA : Below w3.heap.size w3 v8 := by rw [hv8]; exact newB _ _
    have cA0 : v8.cell? ⟨w3.heap.size, 0, none⟩ = some (.slice (some ⟨g, 0, none⟩) fs.length cap) := by rw [hv8]; go_simp
    have cA1 : v8.cell? ⟨w3.heap.size, 1, none⟩ = some (.int .i64 at') := by rw [hv8]; go_simp
    have cA2 : v8.cell? ⟨w3.heap.size, 2, none⟩ = some (.bool fresh) := by rw [hv8]; go_simp
    have cAf : ∀ o : Nat, v8.frozen? ⟨w3.heap.size, o, none⟩ = false := fun o => by rw [hv8]; go_simp
    have zA : w3.heap.size < v8.heap.size := by rw [hv8]; simp
    clear hv8
    obtain ⟨b8, hb8⟩ : ∃ b, b = w3.heap.size := ⟨_, rfl⟩
    rw [← hb8] at cA0 cA1 cA2 cAf ⊢
    have yb8 : b8 < v8.heap.size := by omega
    have lb8 : w3.heap.size ≤ b8 ∧ b8 ≤ w3.heap.size := by omega
    clear hb8
    have HCA : Hid (v8.cell? ⟨b8, 1, none⟩ = some (.int .i64 at') ∧ v8.cell? ⟨b8, 2, none⟩ = some (.bool fresh) ∧ v8.cell? ⟨b8, 0, none⟩ = some (.slice (some ⟨g, 0, none⟩) fs.length cap) ∧ ∀ o : Nat, v8.frozen? ⟨b8, o, none⟩ = false) := ⟨cA1, cA2, cA0, cAf⟩
    have F8' : Hid (FO v8 w2.heap.size w3.heap.size g fs.length vs fs) := FR3.out.fo.next hbA
    have AP : Hid (Apart8 b8 g vs) := ⟨by have := FR3.out.fo.g1; omega, fun i hi e => by
      have := ((FR3.out.fo.own i (by rw [← FR3.out.fo.len]; exact hi) hi).el e).2.1
      omega⟩
    have K8 : Hid (Kept w [(w.heap.size, 0, .slice a fs.length c), (w.heap.size, 1, .int .i64 at'), (w.heap.size, 2, .bool fresh), (w.heap.size + 1, 0, .slice none 0 0), (w.heap.size + 1, 1, .int .i64 0), (w.heap.size + 1, 2, .bool false)] [w.heap.size + 1] v8) := K3.out.next hbA
    clear cA0 cA1 cA2 cAf y0 y1 y2 y3 y4 y5 j0 j1 j2 j3 j4 j5 K3
    go_upto_region 5 with (first | (go_at_call 34; refine (l8Serve_any cap at' fresh F8'.out HOK.out AP.out yb8 HCA.out.2.2.1 HCA.out.1 HCA.out.2.1 HCA.out.2.2.2).mono ?_; rintro e w4 ⟨vs4, rfl, fo4, ap4, s0, s1, s2, sf, on4⟩; have FO4 : Hid (FO w4 w2.heap.size w4.heap.size g fs.length vs4 (srvFs fs at' fresh)) := fo4; have ON4 : Hid (Only2 g b8 v8 w4) := on4; clear fo4 ap4 on4))
    have hg0 := FR3.out.fo.g0
    have hb4 : Below w2.heap.size v8 w4 := ON4.out.below hg0 (by omega) (by omega)
    have K4 : Hid (Kept w [(w.heap.size, 0, .slice a fs.length c), (w.heap.size, 1, .int .i64 at'), (w.heap.size, 2, .bool fresh), (w.heap.size + 1, 0, .slice none 0 0), (w.heap.size + 1, 1, .int .i64 0), (w.heap.size + 1, 2, .bool false)] [w.heap.size + 1] w4) := by
      refine ⟨Cells.onlyI (lo := w2.heap.size) (hi := v8.heap.size) ⟨hb4.os, hb4.tape, hb4.output, hb4.size, fun k hk hn => hb4.block k (by omega)⟩ (fun c hc => ?_) K8.out.cells, fun b hb => ?_, K8.out.hb.trans (hb4.mono (by omega))⟩
      · simp only [List.mem_cons, List.not_mem_nil, or_false] at hc
        rcases hc with rfl | rfl | rfl | rfl | rfl | rfl <;> (simp only; omega)
      · simp only [List.mem_cons, List.not_mem_nil, or_false] at hb
        subst hb
        exact ⟨by have := hb4.size; omega, fun o => (hb4.frozen (p := ⟨w.heap.size + 1, o, none⟩) (by show w.heap.size + 1 < w2.heap.size; omega)).trans ((K8.out.free (w.heap.size + 1) (by simp)).2 o)⟩
    have ⟨⟨z0, k0⟩, ⟨z1, k1⟩, ⟨z2, k2⟩, ⟨z3, k3⟩, ⟨z4, k4⟩, ⟨z5, k5⟩, _⟩ := K4.out.cells
    have fr1 := (K4.out.free (w.heap.size + 1) (by simp)).2
    clear HCA
    go_wp2
    refine bodyPost_ret (results_tri3 rfl _ _ _ [.slice (some ⟨g, 0, none⟩) fs.length cap, .int .i64 (srvAt fs at' fresh), .bool (srvFr fs at' fresh)] rfl (put3_res (z0 := .slice none 0 0) (z1 := .int .i64 0) (z2 := .bool false) _ _ _ k3 k4 k5) Try.underlying28 rfl (by kernel_rfl)) rfl ?_
    exact post3 (b := w.heap.size + 1) FO4.out (srv_length _ _ _) hcap (by omega) (by omega) K4.out.hb _ _ _ _ _ _ _
end Go.Proofs.Ytohenfogiegkman
