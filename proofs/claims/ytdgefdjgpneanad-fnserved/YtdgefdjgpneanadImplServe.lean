/- What impl.Serve answers. -/
import Derived.Test.YtdgefdjgpneanadImplTurn
import Derived.Test.YtdgefdjgpneanadImplCopy
import Derived.Test.YtdgefdjgpneanadServed
import Derived.Test.YtdgefdjgpneanadSrvMath
import Derived.Test.YtdgefdjgpneanadGrpC
import Derived.Deep.RegionHeld3
import Derived.Deep.DeepCutAuto
namespace Go.Proofs.Ytdgefdjgpneanad
open Go.ChangeShapes Go.WideShapes Go.ChangeAt Go.RowKit
set_option maxRecDepth 100000
set_option linter.unusedVariables false
set_option linter.unusedSimpArgs false

set_option maxHeartbeats 8000000 in
theorem iServe_any {w : World} {a : Option Addr} (c : Nat) {fs : List F8} (at' : Int) (fresh : Bool) (h : Fls w.heap.size w a fs) (hm0 : fs.length ≤ 4611686018427387904) (hl0 : ∀ f ∈ fs, f.2.2.length ≤ 4611686018427387904) :
    Calls Try.prog 31 #[turnV a fs.length c at' fresh] w (TurnPost3 w (srvY fs at' fresh) (srvYa fs at' fresh) (srvYf fs at' fresh) (srvYi fs at' fresh) (srvYn fs at' fresh)) := by
  obtain ⟨v, hv⟩ : ∃ v, v = (w.alloc (.cells #[.slice a fs.length c, .int .i64 at', .bool fresh] 48)).alloc (.cells #[.slice none 0 0, .int .i64 0, .bool false] 48) := ⟨_, rfl⟩
  have KV : Hid (Kept w [(w.heap.size, 0, .slice a fs.length c), (w.heap.size, 1, .int .i64 at'), (w.heap.size, 2, .bool fresh), (w.heap.size + 1, 0, .slice none 0 0), (w.heap.size + 1, 1, .int .i64 0), (w.heap.size + 1, 2, .bool false)] [w.heap.size + 1] v) := by
    rw [hv]
    refine ⟨⟨⟨by simp <;> omega, by go_simp⟩, ⟨by simp <;> omega, by go_simp⟩, ⟨by simp <;> omega, by go_simp⟩, ⟨by simp, by go_simp⟩, ⟨by simp, by go_simp⟩, ⟨by simp, by go_simp⟩, trivial⟩, fun b hb => ?_, by go_grown⟩
    simp only [List.mem_cons, List.not_mem_nil, or_false] at hb
    subst hb
    exact ⟨by simp, fun o => by go_simp⟩
  have hli : (fs.length : Int) ≤ 4611686018427387904 := by omega
  have ⟨⟨o0, c0⟩, ⟨o1, c1⟩, ⟨o2, c2⟩, ⟨o3, c3⟩, ⟨o4, c4⟩, ⟨o5, c5⟩, _⟩ := KV.out.cells
  cases ht : turnsB fs at' fresh
  · have e0 : srvY fs at' fresh = [] := if_neg (by rw [ht]; decide)
    have e1 : srvYa fs at' fresh = 0 := if_neg (by rw [ht]; decide)
    have e2 : srvYf fs at' fresh = false := if_neg (by rw [ht]; decide)
    have e3 : srvYi fs at' fresh = -1 := if_neg (by rw [ht]; decide)
    have e4 : srvYn fs at' fresh = 0 := if_neg (by rw [ht]; decide)
    rw [e0, e1, e2, e3, e4]
    have HT : Hid (turnsB fs at' fresh = false) := ht
    clear e0 e1 e2 e3 e4 ht
    go_enter Try.func31, Try.ntmps31
    go_upto_region 1 with (fail)
    rw [← hv]
    clear hv
    go_wp2_with (first | (go_at_call 32; refine (iTurnsOk_any c at' fresh (h.here KV.out.hb) hm0 hl0).mono ?_; rintro e w2 ⟨rfl, hb2⟩; rw [HT.out]; have K2 : Hid (Kept w [(w.heap.size, 0, .slice a fs.length c), (w.heap.size, 1, .int .i64 at'), (w.heap.size, 2, .bool fresh), (w.heap.size + 1, 0, .slice none 0 0), (w.heap.size + 1, 1, .int .i64 0), (w.heap.size + 1, 2, .bool false)] [w.heap.size + 1] w2) := KV.out.next hb2; have ⟨⟨z0, k0⟩, ⟨z1, k1⟩, ⟨z2, k2⟩, ⟨z3, k3⟩, ⟨z4, k4⟩, ⟨z5, k5⟩, _⟩ := K2.out.cells; have fr1 := (K2.out.free (w.heap.size + 1) (by simp)).2))
    refine bodyPost_ret (results_tri3 rfl _ _ _ [.slice none 0 0, .int .i64 0, .bool false] rfl (put3_res (z0 := .slice none 0 0) (z1 := .int .i64 0) (z2 := .bool false) _ _ _ k3 k4 k5) Try.underlying48 rfl (by kernel_rfl)) rfl ?_
    exact ⟨none, 0, rfl, TV.zero _ _ _ _ _, ((K2.out.hb.setCell (by simp) _).setCell (by simp) _).setCell (by simp) _⟩
  · have e0 : srvY fs at' fresh = srvFs fs at' fresh := if_pos ht
    have e1 : srvYa fs at' fresh = srvAt fs at' fresh := if_pos ht
    have e2 : srvYf fs at' fresh = srvFr fs at' fresh := if_pos ht
    have e3 : srvYi fs at' fresh = srvI fs at' fresh := if_pos ht
    have e4 : srvYn fs at' fresh = srvN fs at' fresh := if_pos ht
    rw [e0, e1, e2, e3, e4]
    have HT : Hid (turnsB fs at' fresh = true) := ht
    have HOK : Hid (TurnsOk fs at' fresh) := turns_ok ht
    have hl30 := HOK.out.l1
    have hl1 := HOK.out.l0
    have HFL : Hid (∀ f ∈ fs, f.2.2.length ≤ 1048576) := fun f hf => by
      obtain ⟨k, hk, rfl⟩ := List.mem_iff_getElem.1 hf
      have := (HOK.out.flow k hk).len
      omega
    clear e0 e1 e2 e3 e4 ht
    go_enter Try.func31, Try.ntmps31
    go_upto_region 1 with (fail)
    rw [← hv]
    clear hv
    go_upto_region 3 with (first | (go_at_call 32; refine (iTurnsOk_any c at' fresh (h.here KV.out.hb) hm0 hl0).mono ?_; rintro e w2 ⟨rfl, hb2⟩; rw [HT.out]; have K2 : Hid (Kept w [(w.heap.size, 0, .slice a fs.length c), (w.heap.size, 1, .int .i64 at'), (w.heap.size, 2, .bool fresh), (w.heap.size + 1, 0, .slice none 0 0), (w.heap.size + 1, 1, .int .i64 0), (w.heap.size + 1, 2, .bool false)] [w.heap.size + 1] w2) := KV.out.next hb2; have ⟨⟨z0, k0⟩, ⟨z1, k1⟩, ⟨z2, k2⟩, ⟨z3, k3⟩, ⟨z4, k4⟩, ⟨z5, k5⟩, _⟩ := K2.out.cells; have fr1 := (K2.out.free (w.heap.size + 1) (by simp)).2))
    have hz2 : w.heap.size + 1 < w2.heap.size := z3
    go_wp2_with (first | (go_at_call 79; refine (copied_any c at' fresh (h.here K2.out.hb) (by omega) (by omega) HFL.out).mono ?_; rintro e w3 ⟨g, cap, vs, rfl, hcap, fr3, hb3⟩; have FR3 : Hid (FR w3 w2.heap.size w3.heap.size g fs.length vs fs) := fr3; clear fr3; have K3 : Hid (Kept w [(w.heap.size, 0, .slice a fs.length c), (w.heap.size, 1, .int .i64 at'), (w.heap.size, 2, .bool fresh), (w.heap.size + 1, 0, .slice none 0 0), (w.heap.size + 1, 1, .int .i64 0), (w.heap.size + 1, 2, .bool false)] [w.heap.size + 1] w3) := K2.out.next hb3; have ⟨⟨y0, j0⟩, ⟨y1, j1⟩, ⟨y2, j2⟩, ⟨y3, j3⟩, ⟨y4, j4⟩, ⟨y5, j5⟩, _⟩ := K3.out.cells; have hz3 := hb3.size) | (go_at_call 80; refine (served_any cap at' fresh FR3.out.fo HOK.out).mono ?_; rintro e w4 ⟨vs4, rfl, fo4, on4⟩; have FO4 : Hid (FO w4 w2.heap.size w3.heap.size g fs.length vs4 (srvFs fs at' fresh)) := fo4; have ON4 : Hid (OnlyI w2.heap.size w3.heap.size w3 w4) := on4; clear fo4 on4; have K4 : Hid (Kept w [(w.heap.size, 0, .slice a fs.length c), (w.heap.size, 1, .int .i64 at'), (w.heap.size, 2, .bool fresh), (w.heap.size + 1, 0, .slice none 0 0), (w.heap.size + 1, 1, .int .i64 0), (w.heap.size + 1, 2, .bool false)] [w.heap.size + 1] w4) := ⟨Cells.onlyI ON4.out (fun c hc => by (simp only [List.mem_cons, List.not_mem_nil, or_false] at hc; rcases hc with rfl | rfl | rfl | rfl | rfl | rfl <;> (simp only; omega))) K3.out.cells, fun b hb => (by (simp only [List.mem_cons, List.not_mem_nil, or_false] at hb; subst hb; exact ⟨by have := ON4.out.size; omega, fun o => (ON4.out.frozen (p := ⟨w.heap.size + 1, o, none⟩) (by show w.heap.size + 1 < w3.heap.size; omega) (.inl (by show w.heap.size + 1 < w2.heap.size; omega))).trans ((K3.out.free (w.heap.size + 1) (by simp)).2 o)⟩)), K3.out.hb.trans (ON4.out.below (by omega) (by omega))⟩; have ⟨⟨x0, i0⟩, ⟨x1, i1⟩, ⟨x2, i2⟩, ⟨x3, i3⟩, ⟨x4, i4⟩, ⟨x5, i5⟩, _⟩ := K4.out.cells; have fr4 := (K4.out.free (w.heap.size + 1) (by simp)).2))
    refine bodyPost_ret (results_tri3 rfl _ _ _ [.slice (some ⟨g, 0, none⟩) fs.length cap, .int .i64 (srvAt fs at' fresh), .bool (srvFr fs at' fresh)] rfl (put3_res (z0 := .slice none 0 0) (z1 := .int .i64 0) (z2 := .bool false) _ _ _ i3 i4 i5) Try.underlying48 rfl (by kernel_rfl)) rfl ?_
    exact post3 (b := w.heap.size + 1) FO4.out (srv_length _ _ _) hcap (by omega) (by omega) K4.out.hb _ _ _ _ _ _ _
end Go.Proofs.Ytdgefdjgpneanad
