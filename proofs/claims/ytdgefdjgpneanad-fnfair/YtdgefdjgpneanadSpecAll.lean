/- What spec.ServeAll answers. -/
import Derived.Test.YtdgefdjgpneanadSpecTurn
import Derived.Test.YtdgefdjgpneanadSpecCp8
import Derived.Test.YtdgefdjgpneanadSpecServe
import Derived.Test.YtdgefdjgpneanadAllPost
import Derived.Deep.RegionHeld3
import Derived.Deep.DeepCutAuto
namespace Go.Proofs.Ytdgefdjgpneanad
open Go.ChangeShapes Go.WideShapes Go.ChangeAt Go.RowKit
set_option maxRecDepth 100000
set_option linter.unusedVariables false
set_option linter.unusedSimpArgs false

theorem inX_SpecAll {n : Int} {f : Bool} (h : inB 0 n 3000 = f) (w : World) : Calls Try.prog 73 #[.int .i64 n, .int .i64 0, .int .i64 3000] w fun e w' => e = .returned (.bool f) ∧ w' = w := by
  subst h
  exact in_any _ _ _ _
set_option maxHeartbeats 8000000 in
theorem specAll_any {w : World} {a : Option Addr} (c : Nat) {fs : List F8} (at' : Int) (fresh : Bool) (n : Int) (h : Fls w.heap.size w a fs) (hm0 : fs.length ≤ 4611686018427387904) (hl0 : ∀ f ∈ fs, f.2.2.length ≤ 4611686018427387904) :
    Calls Try.prog 25 #[turnV a fs.length c at' fresh, .int .i64 n] w (AllPost w (allOf fs at' fresh n)) := by
  obtain ⟨i0, hi0, hz0, hz1', hz2⟩ := info_parts info_int
  obtain ⟨v, hv⟩ : ∃ v, v = (w.alloc (.cells #[.slice a fs.length c, .int .i64 at', .bool fresh] 48)).alloc (.cells #[.slice none 0 0, .int .i64 0, .bool false] 48) := ⟨_, rfl⟩
  have KV : Hid (Kept w [(w.heap.size, 0, .slice a fs.length c), (w.heap.size, 1, .int .i64 at'), (w.heap.size, 2, .bool fresh), (w.heap.size + 1, 0, .slice none 0 0), (w.heap.size + 1, 1, .int .i64 0), (w.heap.size + 1, 2, .bool false)] [w.heap.size + 1] v) := by
    rw [hv]
    refine ⟨⟨⟨by simp <;> omega, by go_simp⟩, ⟨by simp <;> omega, by go_simp⟩, ⟨by simp <;> omega, by go_simp⟩, ⟨by simp, by go_simp⟩, ⟨by simp, by go_simp⟩, ⟨by simp, by go_simp⟩, trivial⟩, fun b hb => ?_, by go_grown⟩
    simp only [List.mem_cons, List.not_mem_nil, or_false] at hb
    subst hb
    exact ⟨by simp, fun o => by go_simp⟩
  have hli : (fs.length : Int) ≤ 4611686018427387904 := by omega
  have ⟨⟨o0, c0⟩, ⟨o1, c1⟩, ⟨o2, c2⟩, ⟨o3, c3⟩, ⟨o4, c4⟩, ⟨o5, c5⟩, _⟩ := KV.out.cells
  cases hab : allB fs at' fresh n
  · have e0 : allOf fs at' fresh n = ([], 0, false, []) := if_neg (by rw [hab]; decide)
    rw [e0]
    clear e0
    cases ht : turnsB fs at' fresh
    · have HT : Hid (turnsB fs at' fresh = false) := ht
      clear ht hab
      go_enter Try.func25, Try.ntmps25
      go_upto_region 1 with (fail)
      rw [← hv]
      clear hv
      go_wp2_with (first | (go_at_call 30; refine (specTurnsOk_any c at' fresh (h.here KV.out.hb) hm0 hl0).mono ?_; rintro e w2 ⟨rfl, hb2⟩; rw [HT.out]; have K2 : Hid (Kept w [(w.heap.size, 0, .slice a fs.length c), (w.heap.size, 1, .int .i64 at'), (w.heap.size, 2, .bool fresh), (w.heap.size + 1, 0, .slice none 0 0), (w.heap.size + 1, 1, .int .i64 0), (w.heap.size + 1, 2, .bool false)] [w.heap.size + 1] w2) := KV.out.next hb2; have ⟨⟨z0, k0⟩, ⟨z1, k1⟩, ⟨z2, k2⟩, ⟨z3, k3⟩, ⟨z4, k4⟩, ⟨z5, k5⟩, _⟩ := K2.out.cells; have fr1 := (K2.out.free (w.heap.size + 1) (by simp)).2))
      obtain ⟨V9, hV9⟩ : ∃ V9, V9 = ((w2.setCell ⟨w.heap.size + 1, 0, none⟩ (.slice none 0 0)).setCell ⟨w.heap.size + 1, 1, none⟩ (.int .i64 0)).setCell ⟨w.heap.size + 1, 2, none⟩ (.bool false) := ⟨_, rfl⟩
      rw [← hV9]
      have hp : ∀ j v, [Value.slice none 0 0, .int .i64 0, .bool false][j]? = some v → V9.cell? ⟨w.heap.size + 1, j, none⟩ = some v := by rw [hV9]; exact put3_all _ _ _ k3 k4 k5
      have hb9 : Below w.heap.size w V9 := by rw [hV9]; exact ((K2.out.hb.setCell (by simp) _).setCell (by simp) _).setCell (by simp) _
      have hz9 : w.heap.size + 1 < V9.heap.size := by rw [hV9]; simpa using z3
      have hz9e : V9.heap.size = w2.heap.size := by rw [hV9]; simp
      clear hV9
      refine bodyPost_ret (results_two rfl _ _ (w.heap.size + 1) [.slice none 0 0, .int .i64 0, .bool false] rfl (fun j v hv => ((newB V9 _).cell (p := ⟨w.heap.size + 1, j, none⟩) hz9).trans (hp j v hv)) Try.underlying48 rfl (by kernel_rfl)) rfl ?_
      exact ⟨none, 0, _, rfl, TV.zero _ _ _ _ _, .inl ⟨w2.heap.size, 0, rfl, K2.out.hb.size, by simp; omega, ifill_nil _ _, Nat.le_refl _⟩, below_step hb9 (newB _ _)⟩
    · have hin : inB 0 n 3000 = false := by unfold allB at hab; rw [ht] at hab; exact hab
      have HT : Hid (turnsB fs at' fresh = true) := ht
      have HI : Hid (inB 0 n 3000 = false) := hin
      clear ht hab hin
      go_enter Try.func25, Try.ntmps25
      go_upto_region 1 with (fail)
      rw [← hv]
      clear hv
      go_wp2_with (first | (go_at_call 30; refine (specTurnsOk_any c at' fresh (h.here KV.out.hb) hm0 hl0).mono ?_; rintro e w2 ⟨rfl, hb2⟩; rw [HT.out]; have K2 : Hid (Kept w [(w.heap.size, 0, .slice a fs.length c), (w.heap.size, 1, .int .i64 at'), (w.heap.size, 2, .bool fresh), (w.heap.size + 1, 0, .slice none 0 0), (w.heap.size + 1, 1, .int .i64 0), (w.heap.size + 1, 2, .bool false)] [w.heap.size + 1] w2) := KV.out.next hb2; have ⟨⟨z0, k0⟩, ⟨z1, k1⟩, ⟨z2, k2⟩, ⟨z3, k3⟩, ⟨z4, k4⟩, ⟨z5, k5⟩, _⟩ := K2.out.cells; have fr1 := (K2.out.free (w.heap.size + 1) (by simp)).2) | (go_at_call 73; refine (inX_SpecAll HI.out _).mono ?_; rintro e w2' ⟨rfl, rfl⟩))
      obtain ⟨V9, hV9⟩ : ∃ V9, V9 = ((w2'.setCell ⟨w.heap.size + 1, 0, none⟩ (.slice none 0 0)).setCell ⟨w.heap.size + 1, 1, none⟩ (.int .i64 0)).setCell ⟨w.heap.size + 1, 2, none⟩ (.bool false) := ⟨_, rfl⟩
      rw [← hV9]
      have hp : ∀ j v, [Value.slice none 0 0, .int .i64 0, .bool false][j]? = some v → V9.cell? ⟨w.heap.size + 1, j, none⟩ = some v := by rw [hV9]; exact put3_all _ _ _ k3 k4 k5
      have hb9 : Below w.heap.size w V9 := by rw [hV9]; exact ((K2.out.hb.setCell (by simp) _).setCell (by simp) _).setCell (by simp) _
      have hz9 : w.heap.size + 1 < V9.heap.size := by rw [hV9]; simpa using z3
      have hz9e : V9.heap.size = w2'.heap.size := by rw [hV9]; simp
      clear hV9
      refine bodyPost_ret (results_two rfl _ _ (w.heap.size + 1) [.slice none 0 0, .int .i64 0, .bool false] rfl (fun j v hv => ((newB V9 _).cell (p := ⟨w.heap.size + 1, j, none⟩) hz9).trans (hp j v hv)) Try.underlying48 rfl (by kernel_rfl)) rfl ?_
      exact ⟨none, 0, _, rfl, TV.zero _ _ _ _ _, .inl ⟨w2'.heap.size, 0, rfl, K2.out.hb.size, by simp; omega, ifill_nil _ _, Nat.le_refl _⟩, below_step hb9 (newB _ _)⟩
  · have e0 : allOf fs at' fresh n = allR n.toNat fs at' fresh (List.replicate fs.length 0) := if_pos hab
    rw [e0]
    have hab2 := hab
    unfold allB at hab2
    rw [Bool.and_eq_true] at hab2
    obtain ⟨ht, hin⟩ := hab2
    have hnn := in_num hin
    obtain ⟨N, rfl⟩ : ∃ N : Nat, n = N := ⟨n.toNat, by omega⟩
    rw [Int.toNat_natCast]
    have hN : N ≤ 3000 := by omega
    have hNi : (N : Int) ≤ 3000 := by omega
    have HT : Hid (turnsB fs at' fresh = true) := ht
    have HI : Hid (inB 0 (N : Int) 3000 = true) := hin
    have HOK : Hid (TurnsOk fs at' fresh) := turns_ok ht
    have hl30 := HOK.out.l1
    have hl1 := HOK.out.l0
    have hli30 : (fs.length : Int) ≤ 30 := by omega
    have HFL : Hid (∀ f ∈ fs, f.2.2.length ≤ 1048576) := fun f hf => by
      obtain ⟨k, hk, rfl⟩ := List.mem_iff_getElem.1 hf
      have := (HOK.out.flow k hk).len
      omega
    clear e0 ht hin hab hnn
    go_enter Try.func25, Try.ntmps25
    go_upto_region 1 with (fail)
    rw [← hv]
    clear hv
    go_upto_region 3 with (first | (go_at_call 30; refine (specTurnsOk_any c at' fresh (h.here KV.out.hb) hm0 hl0).mono ?_; rintro e w2 ⟨rfl, hb2⟩; rw [HT.out]; have K2 : Hid (Kept w [(w.heap.size, 0, .slice a fs.length c), (w.heap.size, 1, .int .i64 at'), (w.heap.size, 2, .bool fresh), (w.heap.size + 1, 0, .slice none 0 0), (w.heap.size + 1, 1, .int .i64 0), (w.heap.size + 1, 2, .bool false)] [w.heap.size + 1] w2) := KV.out.next hb2; have ⟨⟨z0, k0⟩, ⟨z1, k1⟩, ⟨z2, k2⟩, ⟨z3, k3⟩, ⟨z4, k4⟩, ⟨z5, k5⟩, _⟩ := K2.out.cells; have fr1 := (K2.out.free (w.heap.size + 1) (by simp)).2) | (go_at_call 73; refine (inX_SpecAll HI.out _).mono ?_; rintro e w2' ⟨rfl, rfl⟩))
    have hzz2 : w.heap.size + 1 < w2'.heap.size := z3
    go_upto_region 4 with (first | (go_at_call 81; refine (l8Copy_any c at' fresh (h.here K2.out.hb) (by omega) (by omega) HFL.out).mono ?_; rintro e w3 ⟨g, cap, vs, rfl, hcap, fr3, hb3⟩; have FR3 : Hid (FR w3 w2'.heap.size w3.heap.size g fs.length vs fs) := fr3; clear fr3; have K3 : Hid (Kept w [(w.heap.size, 0, .slice a fs.length c), (w.heap.size, 1, .int .i64 at'), (w.heap.size, 2, .bool fresh), (w.heap.size + 1, 0, .slice none 0 0), (w.heap.size + 1, 1, .int .i64 0), (w.heap.size + 1, 2, .bool false)] [w.heap.size + 1] w3) := K2.out.next hb3; have ⟨⟨y0, j0⟩, ⟨y1, j1⟩, ⟨y2, j2⟩, ⟨y3, j3⟩, ⟨y4, j4⟩, ⟨y5, j5⟩, _⟩ := K3.out.cells; have hz3 := hb3.size))
    clear z0 z1 z2 z3 z4 z5 k0 k1 k2 k3 k4 k5 fr1
    obtain ⟨v8, hv8⟩ : ∃ v8, v8 = w3.alloc (.cells #[.slice (some ⟨g, 0, none⟩) fs.length cap, .int .i64 at', .bool fresh] 48) := ⟨_, rfl⟩
    rw [← hv8]
    have hbA : Below w3.heap.size w3 v8 := by rw [hv8]; exact newB _ _
    have cA0 : v8.cell? ⟨w3.heap.size, 0, none⟩ = some (.slice (some ⟨g, 0, none⟩) fs.length cap) := by rw [hv8]; go_simp
    have cA1 : v8.cell? ⟨w3.heap.size, 1, none⟩ = some (.int .i64 at') := by rw [hv8]; go_simp
    have cA2 : v8.cell? ⟨w3.heap.size, 2, none⟩ = some (.bool fresh) := by rw [hv8]; go_simp
    have cAf : ∀ o : Nat, v8.frozen? ⟨w3.heap.size, o, none⟩ = false := fun o => by rw [hv8]; go_simp
    have zA : w3.heap.size < v8.heap.size := by rw [hv8]; simp
    clear hv8
    obtain ⟨b8, hb8⟩ : ∃ b, b = w3.heap.size := ⟨_, rfl⟩
    rw [← hb8] at cA0 cA1 cA2 cAf ⊢
    have yb8 : b8 < v8.heap.size := by omega
    have lb8 : w3.heap.size ≤ b8 ∧ b8 ≤ w3.heap.size := by omega
    clear hb8
    have HCA : Hid (v8.cell? ⟨b8, 1, none⟩ = some (.int .i64 at') ∧ v8.cell? ⟨b8, 2, none⟩ = some (.bool fresh) ∧ v8.cell? ⟨b8, 0, none⟩ = some (.slice (some ⟨g, 0, none⟩) fs.length cap) ∧ ∀ o : Nat, v8.frozen? ⟨b8, o, none⟩ = false) := ⟨cA1, cA2, cA0, cAf⟩
    have F8' : Hid (FO v8 w2'.heap.size w3.heap.size g fs.length vs fs) := FR3.out.fo.next hbA
    have AP : Hid (g ≠ b8 ∧ ∀ i (h : i < vs.length), elB vs[i] ≠ some b8) := ⟨by have := FR3.out.fo.g1; omega, fun i hi e => by
      have := ((FR3.out.fo.own i (by rw [← FR3.out.fo.len]; exact hi) hi).el e).2.1
      omega⟩
    have K8 : Hid (Kept w [(w.heap.size, 0, .slice a fs.length c), (w.heap.size, 1, .int .i64 at'), (w.heap.size, 2, .bool fresh), (w.heap.size + 1, 0, .slice none 0 0), (w.heap.size + 1, 1, .int .i64 0), (w.heap.size + 1, 2, .bool false)] [w.heap.size + 1] v8) := K3.out.next hbA
    have hg0 := FR3.out.fo.g0
    have hg1 := FR3.out.fo.g1
    clear cA0 cA1 cA2 cAf y0 y1 y2 y3 y4 y5 j0 j1 j2 j3 j4 j5 K3 FR3 hbA
    have ⟨⟨z0, k0⟩, _⟩ := K8.out.cells
    go_upto_region 5 with (first | (at_make; refine wpList_make_full _ rfl _ _ 51 rfl v8.heap.size 2 i0 _ 1 Try.underlying51 hi0 hz0 hz1' _ _ _ _ fs.length rfl rfl rfl rfl (by rw [hz2]; omega) (by unfold maxLen; omega) (Nat.le_refl _) ?_; intro w5 own5 gr5))
    have hb5 : Below v8.heap.size v8 w5 := (Below.refl _ _).grown gr5 (Nat.le_refl _) (fun k hk => by cases hk)
    have hg5 : v8.heap.size < w5.heap.size := (own5.lt _ rfl).2
    have IF5 : Hid (IFill w5 v8.heap.size fs.length (List.replicate fs.length 0) fs.length) := ⟨fun j hj => ⟨⟨0, by
      have hc := own5.cellAt j (by omega)
      rw [hc]
      exact made_int _ j (by omega)⟩, own5.frozenAt j⟩, fun i hi hk => by
      rw [List.getElem_replicate]
      have hc := own5.cellAt i (by omega)
      rw [hc]
      exact made_int _ i (by omega)⟩
    obtain ⟨gS, hgS⟩ : ∃ g, g = v8.heap.size := ⟨_, rfl⟩
    rw [← hgS] at IF5 hg5 ⊢
    have lgS : v8.heap.size ≤ gS ∧ gS ≤ v8.heap.size := by omega
    clear hgS own5 gr5
    have F5 : Hid (FO w5 w2'.heap.size w3.heap.size g fs.length vs fs) := F8'.out.next hb5
    have K5 : Hid (Kept w [(w.heap.size, 0, .slice a fs.length c), (w.heap.size, 1, .int .i64 at'), (w.heap.size, 2, .bool fresh), (w.heap.size + 1, 0, .slice none 0 0), (w.heap.size + 1, 1, .int .i64 0), (w.heap.size + 1, 2, .bool false)] [w.heap.size + 1] w5) := K8.out.next hb5
    have C5 : Hid (w5.cell? ⟨b8, 1, none⟩ = some (.int .i64 at') ∧ w5.cell? ⟨b8, 2, none⟩ = some (.bool fresh) ∧ w5.cell? ⟨b8, 0, none⟩ = some (.slice (some ⟨g, 0, none⟩) fs.length cap) ∧ ∀ o : Nat, w5.frozen? ⟨b8, o, none⟩ = false) :=
      ⟨(hb5.cell (p := ⟨b8, 1, none⟩) yb8).trans HCA.out.1, (hb5.cell (p := ⟨b8, 2, none⟩) yb8).trans HCA.out.2.1, (hb5.cell (p := ⟨b8, 0, none⟩) yb8).trans HCA.out.2.2.1, fun o => (hb5.frozen (p := ⟨b8, o, none⟩) yb8).trans (HCA.out.2.2.2 o)⟩
    clear HCA F8' K8 z0 k0
    have A5 : Hid (AllIs N fs at' fresh N fs at' fresh (List.replicate fs.length 0)) := AllIs.start HOK.out N
    have hb8g : b8 ≠ gS := by omega
    have hz5 := hb5.size
    have AP5 : Hid (Apart8 b8 g vs ∧ Apart8 gS g vs) := ⟨⟨fun e => AP.out.1 e.symm, AP.out.2⟩, ⟨by omega, fun i hi e => by
      have := ((F5.out.own i (by rw [← F5.out.len]; exact hi) hi).el e).2.1
      omega⟩⟩
    have F5w : Hid (FO w5 w2'.heap.size w5.heap.size g fs.length vs fs) := F5.out.wider (Nat.le_refl _) (by omega) (Nat.le_refl _)
    go_loopw [1] (fun nv wr => ∃ (k : Nat) (fx : List F8) (ax : Int) (rx : Bool) (Sx : List Int) (vx : List Value), nv = .int .i64 k ∧ Hid (AllIs N fs at' fresh k fx ax rx Sx) ∧ Hid (FO wr w2'.heap.size wr.heap.size g fx.length vx fx) ∧ Hid (Apart8 b8 g vx ∧ Apart8 gS g vx) ∧ Hid (wr.cell? ⟨b8, 0, none⟩ = some (.slice (some ⟨g, 0, none⟩) fx.length cap) ∧ wr.cell? ⟨b8, 1, none⟩ = some (.int .i64 ax) ∧ wr.cell? ⟨b8, 2, none⟩ = some (.bool rx) ∧ ∀ o : Nat, wr.frozen? ⟨b8, o, none⟩ = false) ∧ Hid (IFill wr gS fs.length Sx fs.length) ∧ Hid (Kept w [(w.heap.size, 0, .slice a fs.length c), (w.heap.size, 1, .int .i64 at'), (w.heap.size, 2, .bool fresh), (w.heap.size + 1, 0, .slice none 0 0), (w.heap.size + 1, 1, .int .i64 0), (w.heap.size + 1, 2, .bool false)] [w.heap.size + 1] wr) ∧ gS < wr.heap.size) (fun nv _ => (intOf nv).toNat)
    case atStart => exact ⟨N, fs, at', fresh, List.replicate fs.length 0, vs, rfl, A5, F5w, AP5, ⟨C5.out.2.2.1, C5.out.1, C5.out.2.1, C5.out.2.2.2⟩, IF5, K5, hg5⟩
    case round =>
      clear A5 F5 F5w AP AP5 C5 IF5 K5 hb5
      obtain ⟨k, fx, ax, rx, Sx, vx, rfl, HA, HF, HP, HC, HS, KR, hgr⟩ := hrel
      have hkN := HA.out.le
      have hki : (k : Int) ≤ 3000 := by omega
      have hb8r : b8 < wr.heap.size := by omega
      have hgg : gS ≠ g := HP.out.2.1
      have hlf := HA.out.len
      have HLF : Hid (fx.length = fs.length) := hlf
      have hxl : (fx.length : Int) ≤ 30 := by omega
      have hgr0 := HF.out.g1
      clear hlf
      cases k with
      | zero =>
        have ⟨x0, x1, x2, xf⟩ := HC.out
        have ⟨⟨q0, p0⟩, ⟨q1, p1⟩, ⟨q2, p2⟩, ⟨q3, p3⟩, ⟨q4, p4⟩, ⟨q5, p5⟩, _⟩ := KR.out.cells
        have frq := (KR.out.free (w.heap.size + 1) (by simp)).2
        go_wp2
        refine bodyPost_ret (results_two rfl _ _ _ [.slice (some ⟨g, 0, none⟩) fx.length cap, .int .i64 ax, .bool rx] rfl (put3_all (z0 := .slice none 0 0) (z1 := .int .i64 0) (z2 := .bool false) _ _ _ p3 p4 p5) Try.underlying48 rfl (by kernel_rfl)) rfl ?_
        exact post_all (b := w.heap.size + 1) HA.out.done HF.out HLF.out (by omega) (by omega) (by omega) KR.out.hb HS.out HA.out.sum.len (by omega) hgr (by omega) _ _ _
      | succ k =>
        have hk1 : (0 : Int) < ((k + 1 : Nat) : Int) := by omega
        have CALL := l8Serve_any cap ax rx HF.out HA.out.ok HP.out.1 hb8r HC.out.1 HC.out.2.1 HC.out.2.2.1 HC.out.2.2.2
        cases hfd : findT fx (comeOf fx.length ax rx fx.length) with
        | none =>
          obtain ⟨n0, n1, n2, n3, n4⟩ := srv_none hfd
          unfold SlPost at CALL
          rw [n0, n1, n2, n3, n4] at CALL
          have HST := HA.out.stop hfd
          have HST : Hid (allR N fs at' fresh (List.replicate fs.length 0) = (fx, ax, rx, Sx)) := HST
          clear n0 n1 n2 n3 n4 hfd HC
          go_upto_region 10 with (first | (go_at_call 82; refine CALL.mono ?_; clear CALL; rintro e w4 ⟨vs4, rfl, fo4, ap4, x0, x1, x2, xf, on4⟩; have FO4 : Hid (FO w4 w2'.heap.size w4.heap.size g fx.length vs4 fx) := fo4; have ON4 : Hid (Only2 g b8 wr w4) := on4; clear fo4 ap4 on4))
          have K4 : Hid (Kept w [(w.heap.size, 0, .slice a fs.length c), (w.heap.size, 1, .int .i64 at'), (w.heap.size, 2, .bool fresh), (w.heap.size + 1, 0, .slice none 0 0), (w.heap.size + 1, 1, .int .i64 0), (w.heap.size + 1, 2, .bool false)] [w.heap.size + 1] w4) := by
            have hbq : Below w2'.heap.size wr w4 := ON4.out.below hg0 (by omega) (by omega)
            refine ⟨Cells.onlyI (lo := w2'.heap.size) (hi := wr.heap.size) ⟨hbq.os, hbq.tape, hbq.output, hbq.size, fun k hk hn => hbq.block k (by omega)⟩ (fun c hc => ?_) KR.out.cells, fun b hb => ?_, KR.out.hb.trans (hbq.mono (by omega))⟩
            · simp only [List.mem_cons, List.not_mem_nil, or_false] at hc
              rcases hc with rfl | rfl | rfl | rfl | rfl | rfl <;> (simp only; omega)
            · simp only [List.mem_cons, List.not_mem_nil, or_false] at hb
              subst hb
              exact ⟨by have := hbq.size; omega, fun o => (hbq.frozen (p := ⟨w.heap.size + 1, o, none⟩) (by show w.heap.size + 1 < w2'.heap.size; omega)).trans ((KR.out.free (w.heap.size + 1) (by simp)).2 o)⟩
          have IS4 : Hid (IFill w4 gS fs.length Sx fs.length) := HS.out.block (ON4.out.block gS hgr hgg (fun e => hb8g e.symm))
          have hz4 := ON4.out.size
          have ⟨⟨q0, p0⟩, ⟨q1, p1⟩, ⟨q2, p2⟩, ⟨q3, p3⟩, ⟨q4, p4⟩, ⟨q5, p5⟩, _⟩ := K4.out.cells
          have frq := (K4.out.free (w.heap.size + 1) (by simp)).2
          go_wp2
          refine bodyPost_ret (results_two rfl _ _ _ [.slice (some ⟨g, 0, none⟩) fx.length cap, .int .i64 ax, .bool rx] rfl (put3_all (z0 := .slice none 0 0) (z1 := .int .i64 0) (z2 := .bool false) _ _ _ p3 p4 p5) Try.underlying48 rfl (by kernel_rfl)) rfl ?_
          exact post_all (b := w.heap.size + 1) HST.out FO4.out HLF.out (by omega) (by omega) (by omega) K4.out.hb IS4.out HA.out.sum.len (by omega) (by omega) (by omega) _ _ _
        | some pq =>
          obtain ⟨m, g', s, SI⟩ := srv_is HA.out.ok (by rw [hfd]; exact fun e => by cases e)
          obtain ⟨n0, n1, n2, n3, n4⟩ := SI.fs
          unfold SlPost at CALL
          rw [n0, n1, n2, n3, n4] at CALL
          have hm := SI.lt
          have hss := SI.size
          have HAS := HA.out.step SI
          have HAS : Hid (AllIs N fs at' fresh k (fx.set m g') (m : Int) false (Sx.set m (Sx.getD m 0 + s))) := HAS
          have hmf : m < fs.length := by have := HLF.out; omega
          have hsl := HA.out.sum.len
          have hms : m < Sx.length := by omega
          have hbd := HA.out.sum.bd m hms
          have hcell := HS.out.got m hms (by omega)
          have hfz := (HS.out.any m hmf).2
          obtain ⟨y, hy⟩ : ∃ y, Sx[m] = y := ⟨_, rfl⟩
          have hgd : Sx.getD m 0 = y := (getD_at hms).trans hy
          rw [hgd] at HAS
          rw [hy] at hbd hcell
          have HSL : Hid (Sx.length = fs.length) := hsl
          have hy0 := hbd.1
          have hy1 : y ≤ 10000000 := by omega
          have hwr : IntKind.i64.wrap (y + s) = y + s := by simp only [IntKind.wrap_i64, wrap64]; omega
          have hmi : (m : Int) < (fs.length : Int) := by omega
          clear n0 n1 n2 n3 n4 hfd HC hy hgd hbd hsl SI
          go_upto_region 6 with (first | (go_at_call 82; refine CALL.mono ?_; clear CALL; rintro e w4 ⟨vs4, rfl, fo4, ap4, x0, x1, x2, xf, on4⟩; have FO4 : Hid (FO w4 w2'.heap.size w4.heap.size g fx.length vs4 (fx.set m g')) := fo4; have ON4 : Hid (Only2 g b8 wr w4) := on4; have AP4 : Hid (Apart8 b8 g vs4 ∧ Apart8 gS g vs4) := ⟨ap4 b8 hb8r HP.out.1, ap4 gS hgr HP.out.2⟩; clear fo4 ap4 on4; have hcell := (ON4.out.cell (p := ⟨gS, m, none⟩) hgr hgg (fun e => hb8g e.symm)).trans hcell; have hfz := (ON4.out.frozen (p := ⟨gS, m, none⟩) hgr hgg (fun e => hb8g e.symm)).trans hfz))
          obtain ⟨w6, hw6⟩ : ∃ w6, w6 = w4.setCell ⟨gS, m, none⟩ (.int .i64 (y + s)) := ⟨_, rfl⟩
          rw [← hw6]
          have hz4 := ON4.out.size
          have IS4 : Hid (IFill w6 gS fs.length (Sx.set m (y + s)) fs.length) := by
            rw [hw6]
            exact sums_set (HS.out.block (ON4.out.block gS hgr hgg (fun e => hb8g e.symm))) HSL.out hmf
          have X6 : Hid (w6.cell? ⟨b8, 0, none⟩ = some (.slice (some ⟨g, 0, none⟩) (fx.set m g').length cap) ∧ w6.cell? ⟨b8, 1, none⟩ = some (.int .i64 (m : Int)) ∧ w6.cell? ⟨b8, 2, none⟩ = some (.bool false) ∧ ∀ o : Nat, w6.frozen? ⟨b8, o, none⟩ = false) := by
            rw [hw6, List.length_set]
            exact ⟨(set_far (fun e => hb8g e.symm)).trans x0, (set_far (fun e => hb8g e.symm)).trans x1, (set_far (fun e => hb8g e.symm)).trans x2, fun o => by simpa using xf o⟩
          have F6 : Hid (FO w6 w2'.heap.size w6.heap.size g (fx.set m g').length vs4 (fx.set m g')) := by
            rw [List.length_set]
            have F := FO4.out.keep (w' := w6) (by rw [hw6]; simp) (by rw [hw6]; exact Below.heap_setCell _ _ _ _ (fun e => hgg e.symm)) (fun i hi b e => by rw [hw6]; exact Below.heap_setCell _ _ _ _ (fun e' => AP4.out.2.2 i hi (by rw [e, e'])))
            have hze : w6.heap.size = w4.heap.size := by rw [hw6]; simp
            rw [hze]
            exact F
          have O6 : Hid (Below w2'.heap.size wr w6) := by rw [hw6]; exact (ON4.out.below hg0 (by omega) (by omega)).setCell (by show w2'.heap.size ≤ gS; omega) _
          have hgr6 : gS < w6.heap.size := by rw [hw6]; simp; omega
          have K6 : Hid (Kept w [(w.heap.size, 0, .slice a fs.length c), (w.heap.size, 1, .int .i64 at'), (w.heap.size, 2, .bool fresh), (w.heap.size + 1, 0, .slice none 0 0), (w.heap.size + 1, 1, .int .i64 0), (w.heap.size + 1, 2, .bool false)] [w.heap.size + 1] w6) := by
            have hbq : Below w2'.heap.size wr w6 := O6.out
            refine ⟨Cells.onlyI (lo := w2'.heap.size) (hi := wr.heap.size) ⟨hbq.os, hbq.tape, hbq.output, hbq.size, fun k hk hn => hbq.block k (by omega)⟩ (fun c hc => ?_) KR.out.cells, fun b hb => ?_, KR.out.hb.trans (hbq.mono (by omega))⟩
            · simp only [List.mem_cons, List.not_mem_nil, or_false] at hc
              rcases hc with rfl | rfl | rfl | rfl | rfl | rfl <;> (simp only; omega)
            · simp only [List.mem_cons, List.not_mem_nil, or_false] at hb
              subst hb
              exact ⟨by have := hbq.size; omega, fun o => (hbq.frozen (p := ⟨w.heap.size + 1, o, none⟩) (by show w.heap.size + 1 < w2'.heap.size; omega)).trans ((KR.out.free (w.heap.size + 1) (by simp)).2 o)⟩
          clear hw6 FO4 ON4 hcell hfz x0 x1 x2 xf HS KR HF HP
          go_wp2
          go_roundw
          case rel => exact ⟨k, fx.set m g', (m : Int), false, Sx.set m (y + s), vs4, by go_num, HAS, F6, AP4, X6, IS4, K6, hgr6⟩
          case measure => first | (simp [intOf]; done) | (simp [intOf]; omega)
end Go.Proofs.Ytdgefdjgpneanad
