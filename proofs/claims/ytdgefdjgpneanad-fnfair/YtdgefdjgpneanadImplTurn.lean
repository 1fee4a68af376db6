/- What impl.TurnsOk answers. -/
import Derived.Test.YtdgefdjgpneanadTurnMath
import Derived.Test.YtdgefdjgpneanadGrpC
import Derived.Shelf.Abstract
import Derived.Deep.RegionHeld3
import Derived.Deep.DeepCutAuto
namespace Go.Proofs.Ytdgefdjgpneanad
open Go.ChangeShapes Go.WideShapes Go.ChangeAt Go.RowKit
set_option maxRecDepth 100000
set_option linter.unusedVariables false
set_option linter.unusedSimpArgs false

theorem retU {f g : Bool} (h : f = g) : Ending.returned (.bool f) = .returned (.bool g) := by rw [h]
theorem undrewT {w w' : World} (h : Below w.drew.heap.size w.drew w') : Below w.heap.size w w' := (Below.refl _ _).drew.trans h
theorem iI_is {lo x hi : Int} {f : Bool} (h : inB lo x hi = f) (w : World) : Calls Try.prog 78 #[.int .i64 x, .int .i64 lo, .int .i64 hi] w fun e w' => e = .returned (.bool f) ∧ w' = w := by subst h; exact iwithin_any lo x hi w
theorem iSg_is {x : Int} {f : Bool} (h : sg x = f) (w : World) : Calls Try.prog 88 #[.int .i64 x] w fun e w' => e = .returned (.bool f) ∧ w' = w := by
  go_enter Try.func88, Try.ntmps88
  go_wp2_with (first | (go_at_call 78; refine (iI_is h _).mono ?_; rintro e w2 ⟨rfl, rfl⟩))
  go_ret
  exact ⟨rfl, rfl⟩
theorem notSg_is {x : Int} {f : Bool} (h : sg x = f) (w : World) : Calls Try.prog 126 #[.int .i64 x] w fun e w' => e = .returned (.bool (!f)) ∧ w' = w := by
  go_enter Try.func126, Try.ntmps126
  go_wp2_with (first | (go_at_call 88; refine (iSg_is h _).mono ?_; rintro e w2 ⟨rfl, rfl⟩))
  go_ret
  exact ⟨rfl, rfl⟩
def IxPost (xs : List Int) (w : World) (e : Ending) (w' : World) : Prop := ∃ z : Int, e = .returned (.int .i64 z) ∧ decide (0 ≤ z) = !allSg xs ∧ Below w.heap.size w w'
set_option maxHeartbeats 2000000 in
theorem sizeIdx_any {w : World} {a : Option Addr} (cap : Nat) {xs : List Int} (h : ISmp w.heap.size w a xs) (hm : xs.length ≤ 4611686018427387904) :
    Calls Try.prog 149 #[.slice a xs.length cap, .func (.func 126) #[] #[]] w (IxPost xs w) := by
  have eg : ∀ args w, (callFunc 126 args).run Try.prog w = .ok (.enter 126 args) w := enters_of Try.func126 (by kernel_rfl) rfl
  have hmi : (xs.length : Int) ≤ 4611686018427387904 := by omega
  go_enter Try.func149, Try.ntmps149
  go_wp2
  go_loop [8] (fun s => ∃ k : Nat, s = .int .i64 k ∧ k ≤ xs.length ∧ Hid (∀ j (hj : j < xs.length), j < k → sg xs[j] = true)) (fun s => xs.length - (intOf s).toNat)
  case atStart => exact ⟨0, rfl, by omega, (fun m h k => by omega)⟩
  case round =>
    obtain ⟨k, rfl, hk, HA⟩ := hrel
    by_cases hlt : k < xs.length
    · have hlt' : (k : Int) < (xs.length : Int) := by omega
      obtain ⟨b, off, rfl, hb, c0⟩ := h k hlt
      obtain ⟨x, hx⟩ : ∃ x, xs[k] = x := ⟨_, rfl⟩
      rw [hx] at c0
      have HX : Hid (xs[k] = x) := hx
      clear hx
      cases hs : sg x
      · have HB : Hid (allSg xs = false) := sg_bad hlt (by rw [HX.out]; exact hs)
        have hd := notSg_is hs w
        go_wp2_with (first | (go_at_call 126; refine hd.mono ?_; rintro e w3 ⟨rfl, rfl⟩))
        go_ret
        exact ⟨k, rfl, by rw [HB.out]; exact decide_eq_true (by omega), Below.refl _ _⟩
      · have hd := notSg_is hs w
        go_wp2_with (first | (go_at_call 126; refine hd.mono ?_; rintro e w3 ⟨rfl, rfl⟩))
        go_round
        case rel =>
          refine ⟨k + 1, by go_num, by omega, fun m hm hk => ?_⟩
          by_cases e : m = k
          · subst e
            rw [HX.out]
            exact hs
          · exact HA.out m hm (by omega)
        case measure => first | (simp [intOf]; done) | (simp [intOf]; omega)
    · have e : k = xs.length := by omega
      subst e
      have HB : Hid (allSg xs = true) := sg_all (fun j hj => HA.out j hj hj)
      go_wp2
      go_ret
      exact ⟨-1, rfl, by rw [HB.out]; rfl, Below.refl _ _⟩
theorem sizeHas_any {w : World} {a : Option Addr} (cap : Nat) {xs : List Int} (h : ISmp w.heap.size w a xs) (hm : xs.length ≤ 4611686018427387904) :
    Calls Try.prog 125 #[.slice a xs.length cap, .func (.func 126) #[] #[]] w fun e w' => e = .returned (.bool (!allSg xs)) ∧ Below w.heap.size w w' := by
  go_enter Try.func125, Try.ntmps125
  go_wp2_with (first | (go_at_call 149; refine (sizeIdx_any cap h hm).mono ?_; rintro e w2 ⟨z, rfl, hzz, hb2⟩; have HZ : Hid (decide (0 ≤ z) = !allSg xs) := hzz; clear hzz))
  go_ret
  exact ⟨retU HZ.out, hb2⟩
theorem areSizes_any {w : World} {a : Option Addr} (cap : Nat) {xs : List Int} (h : ISmp w.heap.size w a xs) (hm : xs.length ≤ 4611686018427387904) :
    Calls Try.prog 86 #[.slice a xs.length cap] w fun e w' => e = .returned (.bool (allSg xs)) ∧ Below w.heap.size w w' := by
  go_enter Try.func86, Try.ntmps86
  go_wp2_with (first | (go_at_call 125; refine (sizeHas_any cap h hm).mono ?_; rintro e w2 ⟨rfl, hb2⟩))
  go_ret
  exact ⟨retU (by simp), hb2⟩
theorem hasFlow_is {w : World} {a : Option Addr} {n : Nat} (c : Nat) (at' : Int) (fresh : Bool) {i : Int} {f : Bool} (hi : inB 0 i ((n : Int) - 1) = f) (hn : (n : Int) ≤ 4611686018427387904) :
    Calls Try.prog 84 #[turnV a n c at' fresh, .int .i64 i] w fun e w' => e = .returned (.bool f) ∧ Below w.heap.size w w' := by
  go_enter Try.func84, Try.ntmps84
  go_wp2_with (first | (go_at_call 78; refine (iI_is hi _).mono ?_; rintro e w2 ⟨rfl, rfl⟩))
  go_ret
  exact ⟨rfl, by go_grown⟩
/-- The most that a flow's deficit may be. -/
def mostOf (at' : Int) (fresh : Bool) (k : Nat) (f : F8) : Int := if f.2.2.length = 0 then 0 else if (k : Int) = at' ∧ fresh = false then f.1 + 1500 else 1499
set_option maxHeartbeats 2000000 in
theorem most_any {w : World} {a : Option Addr} (c : Nat) {fs : List F8} (at' : Int) (fresh : Bool) (h : Fls w.heap.size w a fs) {k : Nat} (hk : k < fs.length) {q d : Int} {xs : List Int} (hx : fs[k] = (q, d, xs)) (h0 : 1500 ≤ q) (h1 : q ≤ 1000000000) :
    Calls Try.prog 85 #[turnV a fs.length c at' fresh, .int .i64 k] w fun e w' => e = .returned (.int .i64 (mostOf at' fresh k (q, d, xs))) ∧ Below w.heap.size w w' := by
  obtain ⟨b, off, sa, sc, rfl, hbl, c0, c1, c2, m1⟩ := h k hk
  rw [hx] at c0 c1 c2
  clear hx m1
  simp only at c0 c1 c2
  have hk' : (k : Int) < (fs.length : Int) := by omega
  obtain ⟨v, hv⟩ : ∃ v, v = w.alloc (.cells #[.slice (some ⟨b, off, none⟩) fs.length c, .int .i64 at', .bool fresh] 48) := ⟨_, rfl⟩
  have nb : Below w.heap.size w v := by rw [hv]; exact newB _ _
  have k0 : v.cell? ⟨w.heap.size, 0, none⟩ = some (.slice (some ⟨b, off, none⟩) fs.length c) := by rw [hv]; go_simp
  have k1 : v.cell? ⟨w.heap.size, 1, none⟩ = some (.int .i64 at') := by rw [hv]; go_simp
  have k2 : v.cell? ⟨w.heap.size, 2, none⟩ = some (.bool fresh) := by rw [hv]; go_simp
  have c0 := (nb.cell (p := ⟨b, off + k * 3, none⟩) hbl).trans c0
  have c2 := (nb.cell (p := ⟨b, off + k * 3 + 2, none⟩) hbl).trans c2
  by_cases hl : xs.length = 0
  · have HM : Hid (mostOf at' fresh k (q, d, xs) = 0) := by show mostOf at' fresh k (q, d, xs) = 0; unfold mostOf; rw [if_pos hl]
    rw [HM.out]
    rw [hl] at c2
    go_enter Try.func85, Try.ntmps85
    go_upto_region 1 with (fail)
    rw [← hv]
    clear hv
    go_wp2
    go_ret
    exact ⟨rfl, nb⟩
  · have hl' : ((xs.length : Int) == 0) = false := by rw [beq_eq_false_iff_ne]; omega
    by_cases hka : (k : Int) = at'
    · cases fresh
      · have HM : Hid (mostOf at' false k (q, d, xs) = q + 1500) := by show mostOf at' false k (q, d, xs) = _; unfold mostOf; rw [if_neg hl, if_pos ⟨hka, rfl⟩]
        rw [HM.out]
        subst hka
        go_enter Try.func85, Try.ntmps85
        go_upto_region 1 with (fail)
        rw [← hv]
        clear hv
        go_wp2
        go_ret
        exact ⟨rfl, nb⟩
      · have HM : Hid (mostOf at' true k (q, d, xs) = 1499) := by show mostOf at' true k (q, d, xs) = _; unfold mostOf; rw [if_neg hl, if_neg (fun h => by cases h.2)]
        rw [HM.out]
        subst hka
        go_enter Try.func85, Try.ntmps85
        go_upto_region 1 with (fail)
        rw [← hv]
        clear hv
        go_wp2
        go_ret
        exact ⟨rfl, nb⟩
    · have HM : Hid (mostOf at' fresh k (q, d, xs) = 1499) := by show mostOf at' fresh k (q, d, xs) = _; unfold mostOf; rw [if_neg hl, if_neg (fun h => hka h.1)]
      have hka' : ((k : Int) == at') = false := by rw [beq_eq_false_iff_ne]; exact hka
      rw [HM.out]
      go_enter Try.func85, Try.ntmps85
      go_upto_region 1 with (fail)
      rw [← hv]
      clear hv
      go_wp2
      go_ret
      exact ⟨rfl, nb⟩
theorem at_most {at' : Int} {fresh : Bool} {k : Nat} {q d : Int} {xs : List Int} (h1 : inB 1500 q 1000000000 = true) : atB at' fresh k (q, d, xs) = ((inB 0 d (mostOf at' fresh k (q, d, xs)) && decide (xs.length ≤ 100)) && allSg xs) := by
  have hq := in_num h1
  rw [Bool.eq_iff_iff]
  unfold atB flowB mostOf inB
  simp only [Bool.and_eq_true, Bool.or_eq_true, decide_eq_true_eq, Bool.not_eq_true', decide_eq_false_iff_not]
  constructor
  · rintro ⟨⟨⟨⟨⟨_, a2⟩, a3⟩, a4⟩, a5⟩, a6⟩
    refine ⟨⟨⟨a2.1, ?_⟩, a3⟩, a5⟩
    split
    · rename_i e
      rcases a4 with a4 | a4
      · exact absurd e a4
      · omega
    · split
      · exact a2.2
      · rename_i e
        rcases a6 with a6 | a6
        · exact absurd a6 e
        · omega
  · rintro ⟨⟨⟨a1, a2⟩, a3⟩, a5⟩
    split at a2
    · rename_i e
      exact ⟨⟨⟨⟨⟨hq, a1, by omega⟩, a3⟩, .inr (by omega)⟩, a5⟩, .inr (by omega)⟩
    · rename_i e
      split at a2
      · rename_i e2
        exact ⟨⟨⟨⟨⟨hq, a1, a2⟩, a3⟩, .inl e⟩, a5⟩, .inl e2⟩
      · exact ⟨⟨⟨⟨⟨hq, a1, by omega⟩, a3⟩, .inl e⟩, a5⟩, .inr (by omega)⟩
theorem at_no {at' : Int} {fresh : Bool} {k : Nat} {q d : Int} {xs : List Int} (h1 : inB 1500 q 1000000000 = false) : atB at' fresh k (q, d, xs) = false := by
  unfold atB flowB
  simp only [h1, Bool.false_and]
set_option maxHeartbeats 8000000 in
theorem iTurnsOk_any {w : World} {a : Option Addr} (c : Nat) {fs : List F8} (at' : Int) (fresh : Bool) (h : Fls w.heap.size w a fs) (hm : fs.length ≤ 4611686018427387904) (hl : ∀ f ∈ fs, f.2.2.length ≤ 4611686018427387904) :
    Calls Try.prog 32 #[turnV a fs.length c at' fresh] w fun e w' => e = .returned (.bool (turnsB fs at' fresh)) ∧ Below w.heap.size w w' := by
  obtain ⟨v, hv⟩ : ∃ v, v = w.alloc (.cells #[.slice a fs.length c, .int .i64 at', .bool fresh] 48) := ⟨_, rfl⟩
  have nb : Below w.heap.size w v := by rw [hv]; exact newB _ _
  have KV : Hid (Cells v [(w.heap.size, 0, .slice a fs.length c), (w.heap.size, 1, .int .i64 at'), (w.heap.size, 2, .bool fresh)]) := by rw [hv]; exact ⟨⟨by simp, by go_simp⟩, ⟨by simp, by go_simp⟩, ⟨by simp, by go_simp⟩, trivial⟩
  have ⟨⟨zk0, k0⟩, ⟨zk1, k1⟩, ⟨zk2, k2⟩, _⟩ := KV.out
  have hmi : (fs.length : Int) ≤ 4611686018427387904 := by omega
  cases h0 : inB 1 (fs.length : Int) 30
  · have HC : Hid (turnsB fs at' fresh = false) := by show turnsB fs at' fresh = false; unfold turnsB; simp only [h0, Bool.false_and]
    go_enter Try.func32, Try.ntmps32
    go_upto_region 1 with (fail)
    rw [← hv]
    clear hv
    go_wp2_with (first | (go_at_call 78; refine (iI_is h0 _).mono ?_; rintro e w2 ⟨rfl, rfl⟩))
    go_ret
    exact ⟨retU HC.out.symm, nb⟩
  · have hn0 := in_num h0
    have hl2' : (fs.length : Int) ≤ 30 := hn0.2
    clear hn0
    cases ha : inB 0 at' ((fs.length : Int) - 1)
    · have HC : Hid (turnsB fs at' fresh = false) := by show turnsB fs at' fresh = false; unfold turnsB; simp only [ha, Bool.and_false, Bool.false_and]
      go_enter Try.func32, Try.ntmps32
      go_upto_region 1 with (fail)
      rw [← hv]
      clear hv
      go_wp2_with (first | (go_at_call 78; refine (iI_is h0 _).mono ?_; rintro e w2 ⟨rfl, rfl⟩) | (go_at_call 84; refine (hasFlow_is c at' fresh ha hmi).mono ?_; rintro e w3 ⟨rfl, hb3⟩))
      go_ret
      exact ⟨retU HC.out.symm, below_step nb hb3⟩
    · have HC : Hid (turnsB fs at' fresh = okTo fs at' fresh fs.length) := by show turnsB fs at' fresh = _; unfold turnsB; simp only [ha, h0, Bool.true_and]
      rw [HC.out]
      go_enter Try.func32, Try.ntmps32
      go_upto_region 1 with (fail)
      rw [← hv]
      clear hv
      go_upto_region 4 with (first | (go_at_call 78; refine (iI_is h0 _).mono ?_; rintro e w2 ⟨rfl, rfl⟩) | (go_at_call 84; refine (hasFlow_is c at' fresh ha hmi).mono ?_; rintro e w3 ⟨rfl, hb3⟩; have K3 : Hid (Cells w3 [(w.heap.size, 0, .slice a fs.length c), (w.heap.size, 1, .int .i64 at'), (w.heap.size, 2, .bool fresh)]) := Cells.next hb3 KV.out; have ⟨⟨zj0, j0⟩, ⟨zj1, j1⟩, ⟨zj2, j2⟩, _⟩ := K3.out; have hb4 := below_step nb hb3))
      clear k0 k1 k2 zk0 zk1 zk2 j0 j1 j2 zj0 zj1 zj2 KV nb hb3
      go_loopw [20] (fun i wr => ∃ k : Nat, i = .int .i64 k ∧ k ≤ fs.length ∧ Hid (okTo fs at' fresh k = true) ∧ Below w.heap.size w wr ∧ Cells wr [(w.heap.size, 0, .slice a fs.length c), (w.heap.size, 1, .int .i64 at'), (w.heap.size, 2, .bool fresh)]) (fun i _ => fs.length - (intOf i).toNat)
      case atStart => exact ⟨0, rfl, by omega, rfl, hb4, K3.out⟩
      case round =>
        clear K3 hb4
        obtain ⟨k, rfl, hk, HO, ho, hc⟩ := hrel
        have KC : Hid (Cells wr [(w.heap.size, 0, .slice a fs.length c), (w.heap.size, 1, .int .i64 at'), (w.heap.size, 2, .bool fresh)]) := hc
        have ⟨⟨zk0, k0⟩, ⟨zk1, k1⟩, ⟨zk2, k2⟩, _⟩ := hc
        clear hc
        by_cases hlt : k < fs.length
        · have hlt' : (k : Int) < (fs.length : Int) := by omega
          have FH0 := h.here ho
          obtain ⟨b, off, sa, sc0, rfl, hbz, c0, c1, c2, m1⟩ := FH0 k hlt
          have hlm := hl _ (List.getElem_mem hlt)
          have HN := ok_next (at' := at') (fresh := fresh) hlt
          rw [HO.out, Bool.true_and] at HN
          have HBD : Hid (atB at' fresh k fs[k] = false → okTo fs at' fresh fs.length = false) := fun hx => ok_bad hlt hx
          obtain ⟨x, hx⟩ : ∃ x, fs[k] = x := ⟨_, rfl⟩
          rw [hx] at c0 c1 c2 m1 hlm HN HBD
          obtain ⟨q, d, xs⟩ := x
          have HX : Hid (fs[k] = (q, d, xs)) := hx
          clear hx
          simp only at c0 c1 c2 m1 hlm
          go_upto_region 6 with (fail)
          obtain ⟨v4, hv⟩ : ∃ v, v = wr.alloc (.cells #[.int .i64 q, .int .i64 d, .slice sa xs.length sc0] 61) := ⟨_, rfl⟩
          rw [← hv]
          have hbA : Below wr.heap.size wr v4 := by rw [hv]; exact newB _ _
          have cA0 : v4.cell? ⟨wr.heap.size, 0, none⟩ = some (.int .i64 q) := by rw [hv]; go_simp
          have cA1 : v4.cell? ⟨wr.heap.size, 1, none⟩ = some (.int .i64 d) := by rw [hv]; go_simp
          have cA2 : v4.cell? ⟨wr.heap.size, 2, none⟩ = some (.slice sa xs.length sc0) := by rw [hv]; go_simp
          have zA : wr.heap.size < v4.heap.size := by rw [hv]; simp
          clear hv
          obtain ⟨b4, hbb⟩ : ∃ b, b = wr.heap.size := ⟨_, rfl⟩
          rw [← hbb] at cA0 cA1 cA2 zA ⊢
          clear hbb
          have hoA := below_step ho hbA
          have KA : Hid (Cells v4 [(w.heap.size, 0, .slice (some ⟨b, off, none⟩) fs.length c), (w.heap.size, 1, .int .i64 at'), (w.heap.size, 2, .bool fresh), (b4, 0, .int .i64 q), (b4, 1, .int .i64 d), (b4, 2, .slice sa xs.length sc0)]) := by
            obtain ⟨d0, d1, d2, _⟩ := Cells.next hbA KC.out
            exact ⟨d0, d1, d2, ⟨zA, cA0⟩, ⟨zA, cA1⟩, ⟨zA, cA2⟩, trivial⟩
          have FH : Hid (Fls v4.heap.size v4 (some ⟨b, off, none⟩) fs) := FH0.here hbA
          have HM1 : Hid (ISmp v4.heap.size v4 sa xs) := m1.here hbA
          have HS : Hid (∀ w', Below v4.heap.size v4 w' → (fun w' => w'.cell? ⟨b4, 0, none⟩ = some (.int .i64 q) ∧ w'.cell? ⟨b4, 1, none⟩ = some (.int .i64 d) ∧ w'.cell? ⟨w.heap.size, 0, none⟩ = some (.slice (some ⟨b, off, none⟩) fs.length c) ∧ w'.cell? ⟨w.heap.size, 1, none⟩ = some (.int .i64 at') ∧ w'.cell? ⟨w.heap.size, 2, none⟩ = some (.bool fresh)) w') := fun w' hw => by
            have ⟨⟨_, d0⟩, ⟨_, d1⟩, ⟨_, d2⟩, ⟨_, d3⟩, ⟨_, d4⟩, _⟩ := Cells.next hw KA.out
            exact ⟨d3, d4, d0, d1, d2⟩
          clear k0 k1 k2 zk0 zk1 zk2 cA0 cA1 cA2 c0 c1 c2 m1 FH0 KC zA hbA
          cases h1 : inB 1500 q 1000000000
          · have HB : Hid (okTo fs at' fresh fs.length = false) := HBD.out (at_no h1)
            clear HN HBD
            refine wp_region_held_drew (S := fun w' => w'.cell? ⟨b4, 0, none⟩ = some (.int .i64 q) ∧ w'.cell? ⟨b4, 1, none⟩ = some (.int .i64 d) ∧ w'.cell? ⟨w.heap.size, 0, none⟩ = some (.slice (some ⟨b, off, none⟩) fs.length c) ∧ w'.cell? ⟨w.heap.size, 1, none⟩ = some (.int .i64 at') ∧ w'.cell? ⟨w.heap.size, 2, none⟩ = some (.bool fresh)) (by kernel_rfl) (HS.out _ (Below.refl _ _).drew) (fun hS => ?_)
            refine wpAnyH_take (i := 0) (v := ?_) rfl (by kernel_rfl) (by kernel_rfl) (by kernel_rfl) (fun _ _ _ h => h) (Or.inl ⟨by rfl, ?_⟩) (by assumption) ?_
            rotate_left 1
            · (intro w' hSw; (try dsimp only at hSw); go_simp; try with_reducible rfl)
            try simp only [Act.put, List.setIfInBounds_toArray, List.set_cons_zero, List.set_cons_succ, List.getElem_toArray, List.getElem_cons_succ, List.getElem_cons_zero]
            refine wpAnyH_take (i := 1) (v := ?_) rfl (by kernel_rfl) (by kernel_rfl) (by kernel_rfl) (fun _ _ _ h => h) (Or.inl ⟨by rfl, ?_⟩) (by assumption) ?_
            rotate_left 1
            · (intro w' hSw; (try dsimp only at hSw); go_simp; try with_reducible rfl)
            try simp only [Act.put, List.setIfInBounds_toArray, List.set_cons_zero, List.set_cons_succ, List.getElem_toArray, List.getElem_cons_succ, List.getElem_cons_zero]
            refine wpAnyH_ready (rs := [2]) (by kernel_rfl) (by simp) (AllReadyH.cons rfl (fun K hK => ?_) AllReadyH.nil)
            go_simp
            (refine (iI_is h1 _).mono ?_; rintro e w5 ⟨rfl, rfl⟩)
            refine hK.out _ _ (by assumption) (fun _ => ?_)
            try simp only [Act.put, List.setIfInBounds_toArray, List.set_cons_zero, List.set_cons_succ, List.getElem_toArray, List.getElem_cons_succ, List.getElem_cons_zero]
            refine wpAnyH_take (i := 3) (v := ?_) rfl (by kernel_rfl) (by kernel_rfl) (by kernel_rfl) (fun _ _ _ h => h) (Or.inl ⟨by rfl, ?_⟩) (by assumption) ?_
            rotate_left 1
            · (intro w' hSw; (try dsimp only at hSw); go_simp; try with_reducible rfl)
            try simp only [Act.put, List.setIfInBounds_toArray, List.set_cons_zero, List.set_cons_succ, List.getElem_toArray, List.getElem_cons_succ, List.getElem_cons_zero]
            refine wpAnyH_take (i := 4) (v := ?_) rfl (by kernel_rfl) (by kernel_rfl) (by kernel_rfl) (fun _ _ _ h => h) (Or.inl ⟨by rfl, ?_⟩) (by assumption) ?_
            rotate_left 1
            · (intro w' hSw; (try dsimp only at hSw); go_simp; try with_reducible rfl)
            try simp only [Act.put, List.setIfInBounds_toArray, List.set_cons_zero, List.set_cons_succ, List.getElem_toArray, List.getElem_cons_succ, List.getElem_cons_zero]
            refine wpAnyH_take (i := 5) (v := undef) rfl (by kernel_rfl) (by kernel_rfl) (by kernel_rfl) (fun _ _ _ h => h) (Or.inr ⟨by rfl, rfl⟩) (by assumption) ?_
            try simp only [Act.put, List.setIfInBounds_toArray, List.set_cons_zero, List.set_cons_succ, List.getElem_toArray, List.getElem_cons_succ, List.getElem_cons_zero]
            refine wpAnyH_take (i := 6) (v := undef) rfl (by kernel_rfl) (by kernel_rfl) (by kernel_rfl) (fun _ _ _ h => h) (Or.inr ⟨by rfl, rfl⟩) (by assumption) ?_
            try simp only [Act.put, List.setIfInBounds_toArray, List.set_cons_zero, List.set_cons_succ, List.getElem_toArray, List.getElem_cons_succ, List.getElem_cons_zero]
            refine wpAnyH_take (i := 7) (v := undef) rfl (by kernel_rfl) (by kernel_rfl) (by kernel_rfl) (fun _ _ _ h => h) (Or.inr ⟨by rfl, rfl⟩) (by assumption) ?_
            try simp only [Act.put, List.setIfInBounds_toArray, List.set_cons_zero, List.set_cons_succ, List.getElem_toArray, List.getElem_cons_succ, List.getElem_cons_zero]
            refine wpAnyH_take (i := 8) (v := undef) rfl (by kernel_rfl) (by kernel_rfl) (by kernel_rfl) (fun _ _ _ h => h) (Or.inr ⟨by rfl, rfl⟩) (by assumption) ?_
            try simp only [Act.put, List.setIfInBounds_toArray, List.set_cons_zero, List.set_cons_succ, List.getElem_toArray, List.getElem_cons_succ, List.getElem_cons_zero]
            refine wpAnyH_take (i := 9) (v := undef) rfl (by kernel_rfl) (by kernel_rfl) (by kernel_rfl) (fun _ _ _ h => h) (Or.inr ⟨by rfl, rfl⟩) (by assumption) ?_
            try simp only [Act.put, List.setIfInBounds_toArray, List.set_cons_zero, List.set_cons_succ, List.getElem_toArray, List.getElem_cons_succ, List.getElem_cons_zero]
            refine wpAnyH_take (i := 10) (v := undef) rfl (by kernel_rfl) (by kernel_rfl) (by kernel_rfl) (fun _ _ _ h => h) (Or.inr ⟨by rfl, rfl⟩) (by assumption) ?_
            try simp only [Act.put, List.setIfInBounds_toArray, List.set_cons_zero, List.set_cons_succ, List.getElem_toArray, List.getElem_cons_succ, List.getElem_cons_zero]
            refine wpAnyH_take (i := 11) (v := undef) rfl (by kernel_rfl) (by kernel_rfl) (by kernel_rfl) (fun _ _ _ h => h) (Or.inr ⟨by rfl, rfl⟩) (by assumption) ?_
            try simp only [Act.put, List.setIfInBounds_toArray, List.set_cons_zero, List.set_cons_succ, List.getElem_toArray, List.getElem_cons_succ, List.getElem_cons_zero]
            refine wpAnyH_take (i := 12) (v := ?_) rfl (by kernel_rfl) (by kernel_rfl) (by kernel_rfl) (fun _ _ _ h => h) (Or.inl ⟨by rfl, ?_⟩) (by assumption) ?_
            rotate_left 1
            · (intro w' hSw; (try dsimp only at hSw); go_simp; try with_reducible rfl)
            try simp only [Act.put, List.setIfInBounds_toArray, List.set_cons_zero, List.set_cons_succ, List.getElem_toArray, List.getElem_cons_succ, List.getElem_cons_zero]
            refine wpAnyH_done (by kernel_rfl) ?_ _
            go_wp2
            go_ret
            exact ⟨retU HB.out.symm, hoA.drew⟩
          · have hq := in_num h1
            have hq0 := hq.1
            have hq1 := hq.2
            clear hq
            rw [at_most h1] at HN HBD
            obtain ⟨M, hM⟩ : ∃ M, mostOf at' fresh k (q, d, xs) = M := ⟨_, rfl⟩
            have HM : Hid (mostOf at' fresh k (q, d, xs) = M) := hM
            rw [hM] at HN HBD
            clear hM
            cases h2 : inB 0 d M
            · rw [h2, Bool.false_and, Bool.false_and] at HBD
              have HB : Hid (okTo fs at' fresh fs.length = false) := HBD.out rfl
              clear HN HBD
              refine wp_region_held_drew (S := fun w' => w'.cell? ⟨b4, 0, none⟩ = some (.int .i64 q) ∧ w'.cell? ⟨b4, 1, none⟩ = some (.int .i64 d) ∧ w'.cell? ⟨w.heap.size, 0, none⟩ = some (.slice (some ⟨b, off, none⟩) fs.length c) ∧ w'.cell? ⟨w.heap.size, 1, none⟩ = some (.int .i64 at') ∧ w'.cell? ⟨w.heap.size, 2, none⟩ = some (.bool fresh)) (by kernel_rfl) (HS.out _ (Below.refl _ _).drew) (fun hS => ?_)
              refine wpAnyH_take (i := 0) (v := ?_) rfl (by kernel_rfl) (by kernel_rfl) (by kernel_rfl) (fun _ _ _ h => h) (Or.inl ⟨by rfl, ?_⟩) (by assumption) ?_
              rotate_left 1
              · (intro w' hSw; (try dsimp only at hSw); go_simp; try with_reducible rfl)
              try simp only [Act.put, List.setIfInBounds_toArray, List.set_cons_zero, List.set_cons_succ, List.getElem_toArray, List.getElem_cons_succ, List.getElem_cons_zero]
              refine wpAnyH_take (i := 1) (v := ?_) rfl (by kernel_rfl) (by kernel_rfl) (by kernel_rfl) (fun _ _ _ h => h) (Or.inl ⟨by rfl, ?_⟩) (by assumption) ?_
              rotate_left 1
              · (intro w' hSw; (try dsimp only at hSw); go_simp; try with_reducible rfl)
              try simp only [Act.put, List.setIfInBounds_toArray, List.set_cons_zero, List.set_cons_succ, List.getElem_toArray, List.getElem_cons_succ, List.getElem_cons_zero]
              refine wpAnyH_ready (rs := [2]) (by kernel_rfl) (by simp) (AllReadyH.cons rfl (fun K hK => ?_) AllReadyH.nil)
              go_simp
              (refine (iI_is h1 _).mono ?_; rintro e w5 ⟨rfl, rfl⟩)
              refine hK.out _ _ (by assumption) (fun _ => ?_)
              try simp only [Act.put, List.setIfInBounds_toArray, List.set_cons_zero, List.set_cons_succ, List.getElem_toArray, List.getElem_cons_succ, List.getElem_cons_zero]
              refine wpAnyH_take (i := 3) (v := ?_) rfl (by kernel_rfl) (by kernel_rfl) (by kernel_rfl) (fun _ _ _ h => h) (Or.inl ⟨by rfl, ?_⟩) (by assumption) ?_
              rotate_left 1
              · (intro w' hSw; (try dsimp only at hSw); go_simp; try with_reducible rfl)
              try simp only [Act.put, List.setIfInBounds_toArray, List.set_cons_zero, List.set_cons_succ, List.getElem_toArray, List.getElem_cons_succ, List.getElem_cons_zero]
              refine wpAnyH_take (i := 4) (v := ?_) rfl (by kernel_rfl) (by kernel_rfl) (by kernel_rfl) (fun _ _ _ h => h) (Or.inl ⟨by rfl, ?_⟩) (by assumption) ?_
              rotate_left 1
              · (intro w' hSw; (try dsimp only at hSw); go_simp; try with_reducible rfl)
              try simp only [Act.put, List.setIfInBounds_toArray, List.set_cons_zero, List.set_cons_succ, List.getElem_toArray, List.getElem_cons_succ, List.getElem_cons_zero]
              refine wpAnyH_take (i := 5) (v := ?_) rfl (by kernel_rfl) (by kernel_rfl) (by kernel_rfl) (fun _ _ _ h => h) (Or.inl ⟨by rfl, ?_⟩) (by assumption) ?_
              rotate_left 1
              · (intro w' hSw; (try dsimp only at hSw); go_simp; try with_reducible rfl)
              try simp only [Act.put, List.setIfInBounds_toArray, List.set_cons_zero, List.set_cons_succ, List.getElem_toArray, List.getElem_cons_succ, List.getElem_cons_zero]
              refine wpAnyH_take (i := 6) (v := ?_) rfl (by kernel_rfl) (by kernel_rfl) (by kernel_rfl) (fun _ _ _ h => h) (Or.inl ⟨by rfl, ?_⟩) (by assumption) ?_
              rotate_left 1
              · (intro w' hSw; (try dsimp only at hSw); go_simp; try with_reducible rfl)
              try simp only [Act.put, List.setIfInBounds_toArray, List.set_cons_zero, List.set_cons_succ, List.getElem_toArray, List.getElem_cons_succ, List.getElem_cons_zero]
              refine wpAnyH_take (i := 7) (v := ?_) rfl (by kernel_rfl) (by kernel_rfl) (by kernel_rfl) (fun _ _ _ h => h) (Or.inl ⟨by rfl, ?_⟩) (by assumption) ?_
              rotate_left 1
              · (intro w' hSw; (try dsimp only at hSw); go_simp; try with_reducible rfl)
              try simp only [Act.put, List.setIfInBounds_toArray, List.set_cons_zero, List.set_cons_succ, List.getElem_toArray, List.getElem_cons_succ, List.getElem_cons_zero]
              refine wpAnyH_take (i := 8) (v := ?_) rfl (by kernel_rfl) (by kernel_rfl) (by kernel_rfl) (fun _ _ _ h => h) (Or.inl ⟨by rfl, ?_⟩) (by assumption) ?_
              rotate_left 1
              · (intro w' hSw; (try dsimp only at hSw); go_simp; try with_reducible rfl)
              try simp only [Act.put, List.setIfInBounds_toArray, List.set_cons_zero, List.set_cons_succ, List.getElem_toArray, List.getElem_cons_succ, List.getElem_cons_zero]
              refine wpAnyH_ready (rs := [9]) (by kernel_rfl) (by simp) (AllReadyH.cons rfl (fun K hK => ?_) AllReadyH.nil)
              go_simp
              (refine (most_any c at' fresh (FH.out.here (Below.refl _ _).drew) hlt HX.out hq0 hq1).mono ?_; rintro e w5 ⟨rfl, hb5⟩; rw [HM.out]; have hb5 := undrewT hb5; have hS5 := HS.out _ hb5)
              refine hK.out _ _ (by assumption) (fun _ => ?_)
              try simp only [Act.put, List.setIfInBounds_toArray, List.set_cons_zero, List.set_cons_succ, List.getElem_toArray, List.getElem_cons_succ, List.getElem_cons_zero]
              refine wpAnyH_ready (rs := [10]) (by kernel_rfl) (by simp) (AllReadyH.cons rfl (fun K hK => ?_) AllReadyH.nil)
              go_simp
              (refine (iI_is h2 _).mono ?_; rintro e w6 ⟨rfl, rfl⟩)
              refine hK.out _ _ (by assumption) (fun _ => ?_)
              try simp only [Act.put, List.setIfInBounds_toArray, List.set_cons_zero, List.set_cons_succ, List.getElem_toArray, List.getElem_cons_succ, List.getElem_cons_zero]
              refine wpAnyH_take (i := 11) (v := ?_) rfl (by kernel_rfl) (by kernel_rfl) (by kernel_rfl) (fun _ _ _ h => h) (Or.inl ⟨by rfl, ?_⟩) (by assumption) ?_
              rotate_left 1
              · (intro w' hSw; (try dsimp only at hSw); go_simp; try with_reducible rfl)
              try simp only [Act.put, List.setIfInBounds_toArray, List.set_cons_zero, List.set_cons_succ, List.getElem_toArray, List.getElem_cons_succ, List.getElem_cons_zero]
              refine wpAnyH_take (i := 12) (v := ?_) rfl (by kernel_rfl) (by kernel_rfl) (by kernel_rfl) (fun _ _ _ h => h) (Or.inl ⟨by rfl, ?_⟩) (by assumption) ?_
              rotate_left 1
              · (intro w' hSw; (try dsimp only at hSw); go_simp; try with_reducible rfl)
              try simp only [Act.put, List.setIfInBounds_toArray, List.set_cons_zero, List.set_cons_succ, List.getElem_toArray, List.getElem_cons_succ, List.getElem_cons_zero]
              refine wpAnyH_done (by kernel_rfl) ?_ _
              go_wp2
              go_ret
              exact ⟨retU HB.out.symm, below_step hoA hb5⟩
            · rw [h2, Bool.true_and] at HBD HN
              refine wp_region_held_drew (S := fun w' => w'.cell? ⟨b4, 0, none⟩ = some (.int .i64 q) ∧ w'.cell? ⟨b4, 1, none⟩ = some (.int .i64 d) ∧ w'.cell? ⟨w.heap.size, 0, none⟩ = some (.slice (some ⟨b, off, none⟩) fs.length c) ∧ w'.cell? ⟨w.heap.size, 1, none⟩ = some (.int .i64 at') ∧ w'.cell? ⟨w.heap.size, 2, none⟩ = some (.bool fresh)) (by kernel_rfl) (HS.out _ (Below.refl _ _).drew) (fun hS => ?_)
              refine wpAnyH_take (i := 0) (v := ?_) rfl (by kernel_rfl) (by kernel_rfl) (by kernel_rfl) (fun _ _ _ h => h) (Or.inl ⟨by rfl, ?_⟩) (by assumption) ?_
              rotate_left 1
              · (intro w' hSw; (try dsimp only at hSw); go_simp; try with_reducible rfl)
              try simp only [Act.put, List.setIfInBounds_toArray, List.set_cons_zero, List.set_cons_succ, List.getElem_toArray, List.getElem_cons_succ, List.getElem_cons_zero]
              refine wpAnyH_take (i := 1) (v := ?_) rfl (by kernel_rfl) (by kernel_rfl) (by kernel_rfl) (fun _ _ _ h => h) (Or.inl ⟨by rfl, ?_⟩) (by assumption) ?_
              rotate_left 1
              · (intro w' hSw; (try dsimp only at hSw); go_simp; try with_reducible rfl)
              try simp only [Act.put, List.setIfInBounds_toArray, List.set_cons_zero, List.set_cons_succ, List.getElem_toArray, List.getElem_cons_succ, List.getElem_cons_zero]
              refine wpAnyH_ready (rs := [2]) (by kernel_rfl) (by simp) (AllReadyH.cons rfl (fun K hK => ?_) AllReadyH.nil)
              go_simp
              (refine (iI_is h1 _).mono ?_; rintro e w5 ⟨rfl, rfl⟩)
              refine hK.out _ _ (by assumption) (fun _ => ?_)
              try simp only [Act.put, List.setIfInBounds_toArray, List.set_cons_zero, List.set_cons_succ, List.getElem_toArray, List.getElem_cons_succ, List.getElem_cons_zero]
              refine wpAnyH_take (i := 3) (v := ?_) rfl (by kernel_rfl) (by kernel_rfl) (by kernel_rfl) (fun _ _ _ h => h) (Or.inl ⟨by rfl, ?_⟩) (by assumption) ?_
              rotate_left 1
              · (intro w' hSw; (try dsimp only at hSw); go_simp; try with_reducible rfl)
              try simp only [Act.put, List.setIfInBounds_toArray, List.set_cons_zero, List.set_cons_succ, List.getElem_toArray, List.getElem_cons_succ, List.getElem_cons_zero]
              refine wpAnyH_take (i := 4) (v := ?_) rfl (by kernel_rfl) (by kernel_rfl) (by kernel_rfl) (fun _ _ _ h => h) (Or.inl ⟨by rfl, ?_⟩) (by assumption) ?_
              rotate_left 1
              · (intro w' hSw; (try dsimp only at hSw); go_simp; try with_reducible rfl)
              try simp only [Act.put, List.setIfInBounds_toArray, List.set_cons_zero, List.set_cons_succ, List.getElem_toArray, List.getElem_cons_succ, List.getElem_cons_zero]
              refine wpAnyH_take (i := 5) (v := ?_) rfl (by kernel_rfl) (by kernel_rfl) (by kernel_rfl) (fun _ _ _ h => h) (Or.inl ⟨by rfl, ?_⟩) (by assumption) ?_
              rotate_left 1
              · (intro w' hSw; (try dsimp only at hSw); go_simp; try with_reducible rfl)
              try simp only [Act.put, List.setIfInBounds_toArray, List.set_cons_zero, List.set_cons_succ, List.getElem_toArray, List.getElem_cons_succ, List.getElem_cons_zero]
              refine wpAnyH_take (i := 6) (v := ?_) rfl (by kernel_rfl) (by kernel_rfl) (by kernel_rfl) (fun _ _ _ h => h) (Or.inl ⟨by rfl, ?_⟩) (by assumption) ?_
              rotate_left 1
              · (intro w' hSw; (try dsimp only at hSw); go_simp; try with_reducible rfl)
              try simp only [Act.put, List.setIfInBounds_toArray, List.set_cons_zero, List.set_cons_succ, List.getElem_toArray, List.getElem_cons_succ, List.getElem_cons_zero]
              refine wpAnyH_take (i := 7) (v := ?_) rfl (by kernel_rfl) (by kernel_rfl) (by kernel_rfl) (fun _ _ _ h => h) (Or.inl ⟨by rfl, ?_⟩) (by assumption) ?_
              rotate_left 1
              · (intro w' hSw; (try dsimp only at hSw); go_simp; try with_reducible rfl)
              try simp only [Act.put, List.setIfInBounds_toArray, List.set_cons_zero, List.set_cons_succ, List.getElem_toArray, List.getElem_cons_succ, List.getElem_cons_zero]
              refine wpAnyH_take (i := 8) (v := ?_) rfl (by kernel_rfl) (by kernel_rfl) (by kernel_rfl) (fun _ _ _ h => h) (Or.inl ⟨by rfl, ?_⟩) (by assumption) ?_
              rotate_left 1
              · (intro w' hSw; (try dsimp only at hSw); go_simp; try with_reducible rfl)
              try simp only [Act.put, List.setIfInBounds_toArray, List.set_cons_zero, List.set_cons_succ, List.getElem_toArray, List.getElem_cons_succ, List.getElem_cons_zero]
              refine wpAnyH_ready (rs := [9]) (by kernel_rfl) (by simp) (AllReadyH.cons rfl (fun K hK => ?_) AllReadyH.nil)
              go_simp
              (refine (most_any c at' fresh (FH.out.here (Below.refl _ _).drew) hlt HX.out hq0 hq1).mono ?_; rintro e w5 ⟨rfl, hb5⟩; rw [HM.out]; have hb5 := undrewT hb5; have hS5 := HS.out _ hb5)
              refine hK.out _ _ (by assumption) (fun _ => ?_)
              try simp only [Act.put, List.setIfInBounds_toArray, List.set_cons_zero, List.set_cons_succ, List.getElem_toArray, List.getElem_cons_succ, List.getElem_cons_zero]
              refine wpAnyH_ready (rs := [10]) (by kernel_rfl) (by simp) (AllReadyH.cons rfl (fun K hK => ?_) AllReadyH.nil)
              go_simp
              (refine (iI_is h2 _).mono ?_; rintro e w6 ⟨rfl, rfl⟩)
              refine hK.out _ _ (by assumption) (fun _ => ?_)
              try simp only [Act.put, List.setIfInBounds_toArray, List.set_cons_zero, List.set_cons_succ, List.getElem_toArray, List.getElem_cons_succ, List.getElem_cons_zero]
              refine wpAnyH_take (i := 11) (v := ?_) rfl (by kernel_rfl) (by kernel_rfl) (by kernel_rfl) (fun _ _ _ h => h) (Or.inl ⟨by rfl, ?_⟩) (by assumption) ?_
              rotate_left 1
              · (intro w' hSw; (try dsimp only at hSw); go_simp; try with_reducible rfl)
              try simp only [Act.put, List.setIfInBounds_toArray, List.set_cons_zero, List.set_cons_succ, List.getElem_toArray, List.getElem_cons_succ, List.getElem_cons_zero]
              refine wpAnyH_take (i := 12) (v := ?_) rfl (by kernel_rfl) (by kernel_rfl) (by kernel_rfl) (fun _ _ _ h => h) (Or.inl ⟨by rfl, ?_⟩) (by assumption) ?_
              rotate_left 1
              · (intro w' hSw; (try dsimp only at hSw); go_simp; try with_reducible rfl)
              try simp only [Act.put, List.setIfInBounds_toArray, List.set_cons_zero, List.set_cons_succ, List.getElem_toArray, List.getElem_cons_succ, List.getElem_cons_zero]
              refine wpAnyH_done (by kernel_rfl) ?_ _
              have HB5 := hb5
              have HBW := below_step hoA hb5
              have KC5 : Hid (Cells w6 [(w.heap.size, 0, .slice (some ⟨b, off, none⟩) fs.length c), (w.heap.size, 1, .int .i64 at'), (w.heap.size, 2, .bool fresh), (b4, 0, .int .i64 q), (b4, 1, .int .i64 d), (b4, 2, .slice sa xs.length sc0)]) := Cells.next hb5 KA.out
              have ⟨⟨zi0, i0⟩, ⟨zi1, i1⟩, ⟨zi2, i2⟩, ⟨zi3, i3⟩, ⟨zi4, i4⟩, ⟨zi5, i5⟩, _⟩ := KC5.out
              by_cases h3 : xs.length ≤ 100
              · have h3' : (xs.length : Int) ≤ 100 := by omega
                rw [decide_eq_true h3, Bool.true_and] at HN HBD
                obtain ⟨f, hf⟩ : ∃ f, allSg xs = f := ⟨_, rfl⟩
                have HZ : Hid (allSg xs = f) := hf
                rw [hf] at HN HBD
                clear hf
                cases f
                · have HB : Hid (okTo fs at' fresh fs.length = false) := HBD.out rfl
                  clear HN HBD
                  go_wp2_with (first | (go_at_call 86; refine (areSizes_any sc0 (HM1.out.here HB5) hlm).mono ?_; rintro e w7 ⟨rfl, hb7⟩; rw [HZ.out]; have hx7 := below_step HBW hb7; have KC7 : Hid (Cells w7 [(w.heap.size, 0, .slice (some ⟨b, off, none⟩) fs.length c), (w.heap.size, 1, .int .i64 at'), (w.heap.size, 2, .bool fresh), (b4, 0, .int .i64 q), (b4, 1, .int .i64 d), (b4, 2, .slice sa xs.length sc0)]) := Cells.next hb7 KC5.out))
                  go_ret
                  exact ⟨retU HB.out.symm, hx7⟩
                · have HN' : Hid (okTo fs at' fresh (k + 1) = true) := HN
                  clear HN HBD
                  go_wp2_with (first | (go_at_call 86; refine (areSizes_any sc0 (HM1.out.here HB5) hlm).mono ?_; rintro e w7 ⟨rfl, hb7⟩; rw [HZ.out]; have hx7 := below_step HBW hb7; have KC7 : Hid (Cells w7 [(w.heap.size, 0, .slice (some ⟨b, off, none⟩) fs.length c), (w.heap.size, 1, .int .i64 at'), (w.heap.size, 2, .bool fresh), (b4, 0, .int .i64 q), (b4, 1, .int .i64 d), (b4, 2, .slice sa xs.length sc0)]) := Cells.next hb7 KC5.out))
                  go_roundw
                  case rel => exact ⟨k + 1, by go_num, by omega, HN'.out, hx7, by have ⟨e0, e1, e2, _⟩ := KC7.out; exact ⟨e0, e1, e2, trivial⟩⟩
                  case measure => first | (simp [intOf]; done) | (simp [intOf]; omega)
              · have h3' : (100 : Int) < (xs.length : Int) := by omega
                rw [decide_eq_false h3, Bool.false_and] at HBD
                have HB : Hid (okTo fs at' fresh fs.length = false) := HBD.out rfl
                clear HN HBD
                go_wp2
                go_ret
                exact ⟨retU HB.out.symm, HBW⟩
        · have e : k = fs.length := by omega
          subst e
          have HB : Hid (okTo fs at' fresh fs.length = true) := HO
          go_wp2
          go_ret
          exact ⟨retU HB.out.symm, ho⟩
end Go.Proofs.Ytdgefdjgpneanad
