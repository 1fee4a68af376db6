/- Proved: whatever the bytes, the law FnFiltered returns true (at the filter, the sample and the window that the model draws of them impl.Push answers as spec's does, and what it answers is right; and after each of twelve samples that are pushed the best of the filter is the greatest (least) sample of the window), and the bytes read as before; no condition. -/
import Derived.Test.YtmophpbfaonfmabRows
import Derived.WalkKit
import Derived.ProofKit
import Derived.OpenShut
import Derived.ShutString
import Derived.ChangeOld
import Derived.Below
import Derived.Test.YtmophpbfaonfmabFilLaw
import Derived.Test.YtmophpbfaonfmabDrawLevel
import Derived.Test.YtmophpbfaonfmabPush2
import Derived.Deep.DeepCutAuto
namespace Go.Proofs.Ytmophpbfaonfmab.fnFiltered
open Go.ChangeShapes Go.WideShapes Go.ChangeAt Go.RowKit
open Go.ChangeMaps (open_string shut_string)
set_option linter.unusedVariables false

theorem own : ownKnob Try.prog.godebug = none := by kernel_rfl
theorem laidOut : laidOutB Try.prog = true := by kernel_rfl

/-- WHAT THE WALK IS TOLD OF A SLICE OF INTEGERS THAT CAME IN: it is nil; or it leads to a row of 'cap' cells, the numbers 'zs' (the first 'len' are its elements, the rest its spare room), each fitting its kind. -/
def IsRow (k : IntKind) (w : World) (a : Option Addr) (len cap : Nat) (zs : List Int) : Prop :=
  (a = none ∧ len = 0 ∧ cap = 0 ∧ zs = []) ∨
  ∃ x, a = some x ∧ len ≤ cap ∧ cap ≤ maxLen ∧ zs.length = cap ∧ (∀ i, i < zs.length → w.cell? (x.add i) = some (.int k (zs.getD i 0))) ∧ ∀ n ∈ zs, (Lit.int k n).wf = true

set_option linter.unusedSimpArgs false
set_option maxRecDepth 100000
theorem row_of {w : World} {a : Option Addr} {len cap : Nat} {zs : List Int} (h : IsRow .u8 w a len cap zs) : Row w.heap.size a len w := by
  intro i hi
  rcases h with ⟨rfl, rfl, rfl, rfl⟩ | ⟨x, rfl, hl, hm, hz, hcell, hwz⟩
  · omega
  · obtain ⟨b, off, spot⟩ := x
    have hspot : spot = none := by simpa [Addr.add] using World.cell?_spot (hcell 0 (by omega))
    subst hspot
    have hc := hcell i (by omega)
    have hc' : w.cell? ⟨b, off + i, none⟩ = some (.int .u8 (zs.getD i 0)) := by
      by_cases h0 : i = 0
      · subst h0; simpa [Addr.add] using hc
      · simpa [Addr.add, h0] using hc
    have hlt : i < zs.length := by omega
    have hm : zs.getD i 0 ∈ zs := by simp [List.getD, List.getElem?_eq_getElem hlt]
    obtain ⟨z0, z1⟩ := bounds_u8 (hwz _ hm)
    exact ⟨b, off, zs.getD i 0, rfl, World.block_lt_of_cell? w _ hc', hc', z0, z1⟩
theorem nil_of {w : World} {a : Option Addr} {len cap : Nat} {zs : List Int} (h : IsRow .u8 w a len cap zs) : a = none → len = 0 ∧ cap = 0 := by
  rintro rfl
  rcases h with ⟨_, h1, h2, _⟩ | ⟨x, h, _⟩
  · exact ⟨h1, h2⟩
  · cases h

/-! ### STEP 1: THE WALK: the Go text returns true, AND WRITES NOTHING THAT WAS THERE: 'Below w.heap.size w w'' (Derived/Below.lean: '.refl', '.alloc', '.drew', '.setCell' at a new block, '.trans'). Open each 'IsRow' by 'rcases' AHEAD of 'go_enter'; part every test ahead of the walk. -/
set_option maxHeartbeats 16000000 in
theorem walk (a0 : Option Addr) (len0 cap0 : Nat) (z0 : List Int) (w : World) (w0 : IsRow .u8 w a0 len0 cap0 z0) :
    Calls Try.prog 5 #[.slice a0 len0 cap0] w fun e w' => e = .returned (.bool true) ∧ Below w.heap.size w w' := by
  have row := row_of w0
  have hnil : Hid (a0 = none → len0 = 0 ∧ cap0 = 0) := nil_of w0
  by_cases hs : len0 ≤ 4096
  · go_enter Try.func5, Try.ntmps5
    go_upto_region 4 with (first
      | (go_at_call 18; refine (drawPush_any cap0 hs row (Nat.le_refl _)).mono ?_; rintro e w1 ⟨a, n, c, ys, p, q, win, most, rfl, hfv, hys, hbw⟩)
      | go_in)
    obtain ⟨x1, hx1⟩ : ∃ x, x = (w1.alloc (.cells #[.slice a n c] 35)).alloc (.cells #[.int .i64 p, .int .i64 q] 37) := ⟨_, rfl⟩
    obtain ⟨fb, hfb⟩ : ∃ b, b = w1.heap.size := ⟨_, rfl⟩
    obtain ⟨sb, hsb⟩ : ∃ b, b = w1.heap.size + 1 := ⟨_, rfl⟩
    rw [← hx1, ← hsb, ← hfb]
    have cf : x1.cell? ⟨fb, 0, none⟩ = some (.slice a n c) := by rw [hx1, hfb]; go_simp
    have cs0 : x1.cell? ⟨sb, 0, none⟩ = some (.int .i64 p) := by rw [hx1, hsb]; go_simp
    have cs1 : x1.cell? ⟨sb, 1, none⟩ = some (.int .i64 q) := by rw [hx1, hsb]; go_simp
    have zf : fb < x1.heap.size := by rw [hx1, hfb]; simp; omega
    have zs : sb < x1.heap.size := by rw [hx1, hsb]; simp
    have hb1 : Below w1.heap.size w1 x1 := by rw [hx1]; go_grown
    clear hx1 hfb hsb
    have F1 : Hid (FV x1 w.heap.size (.slice a n c) ys) := hfv.next hb1
    have hbw := below_two hbw hb1
    have hcap := fv_cap F1.out
    have hsm := F1.out.smp
    obtain rfl := hsm.1
    clear hfv hb1
    by_cases hP : PushOk most ys (p, q) win
    · have HP : Hid (PushOk most ys (p, q) win) := hP
      have hok := push_ok hP
      have hle := push_le most ys (p, q) win hP.1.1
      obtain ⟨zl, hz⟩ : ∃ zl, pushOf most ys (p, q) win = zl := ⟨_, rfl⟩
      rw [hz] at hok hle
      have HZ : Hid (pushOf most ys (p, q) win = zl) := hz
      have HOK : Hid (FOk most zl) := hok
      have hzl : zl.length ≤ 4611686018427387904 := by omega
      clear hP hz hok hle
      go_upto_region 5 with (first
        | (go_at_call 19; refine (implPush_yes c hsm.2 hcap.1 hcap.2 HP.out).mono ?_; rw [HZ.out]; intro e w2 hy2; obtain ⟨g, cg, rfl, hg0, fg, hb2⟩ := yes_fv hy2; clear hy2; have cf := (hb2.cell (p := ⟨fb, 0, none⟩) zf).trans cf; have cs0 := (hb2.cell (p := ⟨sb, 0, none⟩) zs).trans cs0; have cs1 := (hb2.cell (p := ⟨sb, 1, none⟩) zs).trans cs1; have zf := Nat.lt_of_lt_of_le zf hb2.size; have zs := Nat.lt_of_lt_of_le zs hb2.size; have F2 := F1.out.next hb2; have hbw := below_two hbw hb2))
      obtain ⟨x2, hx2⟩ : ∃ x, x = w2.alloc (.cells #[.slice (some ⟨g, 0, none⟩) zl.length cg] 35) := ⟨_, rfl⟩
      obtain ⟨gb, hgb⟩ : ∃ b, b = w2.heap.size := ⟨_, rfl⟩
      rw [← hx2, ← hgb]
      have cg0 : x2.cell? ⟨gb, 0, none⟩ = some (.slice (some ⟨g, 0, none⟩) zl.length cg) := by rw [hx2, hgb]; go_simp
      have zg : gb < x2.heap.size := by rw [hx2, hgb]; simp
      have hb3 : Below w2.heap.size w2 x2 := by rw [hx2]; exact new_below _ _
      clear hx2 hgb
      have cf := (hb3.cell (p := ⟨fb, 0, none⟩) zf).trans cf
      have cs0 := (hb3.cell (p := ⟨sb, 0, none⟩) zs).trans cs0
      have cs1 := (hb3.cell (p := ⟨sb, 1, none⟩) zs).trans cs1
      have zf := Nat.lt_of_lt_of_le zf hb3.size
      have zs := Nat.lt_of_lt_of_le zs hb3.size
      have F3 := F2.next hb3
      have hbw := below_two hbw hb3
      have hsm3 := F3.smp
      have fg3 := fg.next hb3
      go_upto_region 6 with (first
        | (go_at_call 20; refine (specPush_yes c hsm3.2 HP.out).mono ?_; rw [HZ.out]; intro e w4 hy4; obtain ⟨g4, c4, rfl, hg4, f4, hb4⟩ := yes_fv hy4; clear hy4; have fg4 := fg3.next hb4; have cg0 := (hb4.cell (p := ⟨gb, 0, none⟩) zg).trans cg0; have zg := Nat.lt_of_lt_of_le zg hb4.size; have hbw := below_two hbw hb4))
      obtain ⟨x4, hx4⟩ : ∃ x, x = w4.alloc (.cells #[.slice (some ⟨g4, 0, none⟩) zl.length c4] 35) := ⟨_, rfl⟩
      obtain ⟨xb, hxb⟩ : ∃ b, b = w4.heap.size := ⟨_, rfl⟩
      rw [← hx4, ← hxb]
      have cx0 : x4.cell? ⟨xb, 0, none⟩ = some (.slice (some ⟨g4, 0, none⟩) zl.length c4) := by rw [hx4, hxb]; go_simp
      have hb5 : Below w4.heap.size w4 x4 := by rw [hx4]; exact new_below _ _
      clear hx4 hxb
      have cg0 := (hb5.cell (p := ⟨gb, 0, none⟩) zg).trans cg0
      have zg := Nat.lt_of_lt_of_le zg hb5.size
      have hbw := below_two hbw hb5
      have fg5 := fg4.next hb5
      have f5 := f4.next hb5
      go_upto_region 12 with (first
        | (go_at_call 21; refine (likeF_same fg5 f5 hzl).mono ?_; rintro e w6 ⟨rfl, hb6⟩; have cg0 := (hb6.cell (p := ⟨gb, 0, none⟩) zg).trans cg0; have zg := Nat.lt_of_lt_of_le zg hb6.size; have hbw := below_two hbw hb6; have fg6 := fg5.next hb6; have hsm6 := fg6.smp)
        | (go_at_call 22; refine (implFilterOk_yes cg hsm6.2 HOK.out).mono ?_; rintro e w7 ⟨rfl, hb7⟩; have hbw := below_two hbw hb7))
      have HB7 : Hid (Below w.heap.size w w7) := hbw
      clear hbw cf cs0 cs1 zf zs cg0 zg cx0 hsm hsm3 hsm6 hcap F1 F2 F3 fg fg3 fg4 fg5 fg6 f4 f5 HP HZ HOK hzl hb2 hb3 hb4 hb5 hb6 hb7 hg0 hg4 hys
      go_upto_region 15 with (fail)
      obtain ⟨x8, hx8⟩ : ∃ x, x = (w7.alloc (.cells #[.slice none 0 0] 35)).alloc (.cells #[] 37) := ⟨_, rfl⟩
      rw [← hx8]
      have D0 : Hid (LS w7 x8 (.slice (some ⟨w7.heap.size + 1, 0, none⟩) 0 0) none 0 0 [] []) := by rw [hx8]; exact ls_new w7 35 37
      clear hx8
      obtain ⟨i0, hi, hz0, hz1, hz2⟩ := info_parts info_smp
      have WZ : Hid (Win most [] [] 0) := win_zero most 0
      have LZ : Hid (([] : List (Int × Int)).length = 0) := rfl
      go_wp2
      go_loopw [12, 13, 14] (fun sl sa sj wr => ∃ (j : Nat) (t : Int) (v : Value) (a1 : Option Addr) (n1 c1 : Nat) (h1 L1 : List (Int × Int)), v = sl ∧ sa = .int .i64 t ∧ sj = .int .i64 j ∧ j ≤ 12 ∧ 0 ≤ t ∧ t ≤ 12 * (j : Int) ∧ Hid (LS w7 wr v a1 n1 c1 h1 L1) ∧ Hid (Win most h1 L1 t) ∧ Hid (L1.length = j)) (fun _ _ sj _ => 12 - (intOf sj).toNat)
      case atStart => exact ⟨0, 0, _, none, 0, 0, [], [], rfl, rfl, rfl, by omega, by omega, by omega, D0, WZ, LZ⟩
      case round =>
        clear D0 WZ LZ
        obtain ⟨j, t, v1, a1, n1, c1, h1, L1, rfl, rfl, rfl, hj, t0, t1, HD, HW, HL⟩ := hrel
        obtain ⟨hn1, _⟩ := HD.out.fv.smp
        subst hn1
        have HBW : Hid (Below w.heap.size w wr) := below_two HB7.out HD.out.bel
        by_cases hlt : j < 12
        · have hlt' : (j : Int) < 12 := by omega
          have hbt : IntKind.u8.wrap (j : Int) = (j : Int) := byte_of (by omega) (by omega)
          have hBY : Hid (∀ c : Int, 0 ≤ c → c ≤ 255 → ∀ u ∈ [Value.int .u8 (j : Int), .int .u8 c], ∃ z : Int, u = .int .u8 z ∧ 0 ≤ z ∧ z ≤ 255) := fun c c0 c1 u hu => by
            simp only [List.mem_cons, List.not_mem_nil, or_false] at hu
            rcases hu with rfl | rfl
            · exact ⟨_, rfl, by omega, by omega⟩
            · exact ⟨_, rfl, c0, c1⟩
          go_upto_region 19 with (first
            | (go_at_call 14; refine (pickN_any yPc 50 (by omega) (by omega) (by simp; omega) yP).mono ?_; rintro e w9 ⟨v, rfl, v0, v1', _, rfl⟩; have HB9 : Hid (Below w.heap.size w w9) := HB8.out; have HD9 : Hid (LS w7 w9 v1 a1 h1.length c1 h1 L1) := HD8.out)
            | (at_builtin; refine wpList_pushL [.int .u8 (j : Int)] (by simp) (by simp) (fun u hu => by rw [List.mem_singleton.1 hu]; exact ⟨_, rfl, by omega, by omega⟩) rfl _ _ rfl rfl rfl (ones_owned _ (Nat.le_refl _) _) ((row.mono (below_two HBW.out (new_below _ _))).up HBW.out.size) hnil.out hs (by simp) ?_; intro yPa yPc w8 yP hbp; have hb8 := (new_below _ _).trans hbp; have HB8 : Hid (Below w.heap.size w w8) := below_two HBW.out hb8; have HD8 : Hid (LS w7 w8 v1 a1 h1.length c1 h1 L1) := HD.out.next hb8))
          obtain ⟨x9, hx9⟩ : ∃ x, x = w9.alloc (.cells #[.int .i64 t, .int .i64 v] 37) := ⟨_, rfl⟩
          obtain ⟨xb, hxb⟩ : ∃ b, b = w9.heap.size := ⟨_, rfl⟩
          rw [← hx9, ← hxb]
          have cx0 : x9.cell? ⟨xb, 0, none⟩ = some (.int .i64 t) := by rw [hx9, hxb]; go_simp
          have cx1 : x9.cell? ⟨xb, 1, none⟩ = some (.int .i64 v) := by rw [hx9, hxb]; go_simp
          have zx : xb < x9.heap.size := by rw [hx9, hxb]; simp
          have lx : w7.heap.size < xb := by rw [hxb]; exact HD9.out.lt
          have lv : Hid (∀ g, v1.ownBlock = some g → g < xb) := fun g hg => by rw [hxb]; exact (HD9.out.own.lt g hg).2
          have hb9 : Below w9.heap.size w9 x9 := by rw [hx9]; exact new_below _ _
          clear hx9 hxb
          have HDx : Hid (LS w7 x9 v1 a1 h1.length c1 h1 L1) := HD9.out.next hb9
          have HBx : Hid (Below w.heap.size w x9) := below_two HB9.out hb9
          clear hb9 HD9 HB9 HD8 HB8 HD HBW
          have hsmp := smp_small (t := t) (v := v) ⟨t0, by omega⟩ ⟨v0, v1'⟩
          have hP : Hid (PushOk most h1 (t, v) 30) := ⟨HW.out.fok, hsmp, by decide, win_last HW.out (by omega)⟩
          obtain ⟨W2, hbest⟩ := win_push HW.out hsmp (by rw [HL.out]; omega)
          obtain ⟨L2, hL2⟩ : ∃ L2, L1 ++ [(t, v)] = L2 := ⟨_, rfl⟩
          obtain ⟨zl, hzl⟩ : ∃ zl, pushOf most h1 (t, v) 30 = zl := ⟨_, rfl⟩
          have hmem : (t, v) ∈ L2 := by rw [← hL2]; simp
          have hlen2 : L2.length = j + 1 := by rw [← hL2, List.length_append, HL.out]; rfl
          rw [hL2, hzl] at W2
          rw [hL2, hzl] at hbest
          have HZ : Hid (pushOf most h1 (t, v) 30 = zl) := hzl
          have HE : Hid (L1 ++ [(t, v)] = L2) := hL2
          have HL2 : Hid (L2.length = j + 1) := hlen2
          have HW2 : Hid (Win most zl L2 t) := W2
          have HBE : Hid (∃ r, bestOf zl = r ∧ L2.foldl (bestF most (t - 30)) v = r) := by
            obtain ⟨y, yz, e, hy, hy1, hall⟩ := hbest
            exact ⟨y.2, by rw [e]; rfl, best_is hmem hy hy1 hall⟩
          clear hzl hL2 hlen2 W2 hbest hmem hsmp
          have hcap := fv_cap HDx.out.fv
          have hsm := HDx.out.fv.smp
          have hh0 := HDx.out.hc
          have hhf := HDx.out.fr
          go_upto_region 20 with (first
            | (go_at_call 19; refine (implPush_yes c1 hsm.2 hcap.1 hcap.2 hP.out).mono ?_; rw [HZ.out]; intro e wP hyP; obtain ⟨g, cg, rfl, hg0, fg, hbP⟩ := yes_fv hyP; clear hyP; have HDP : Hid (LS w7 wP v1 a1 h1.length c1 h1 L1) := HDx.out.next hbP; have cx0 := (hbP.cell (p := ⟨xb, 0, none⟩) zx).trans cx0; have cx1 := (hbP.cell (p := ⟨xb, 1, none⟩) zx).trans cx1; have zP := Nat.lt_of_lt_of_le zx hbP.size; have HBP : Hid (Below w.heap.size w wP) := below_two HBx.out hbP; have hh0 := HDP.out.hc; have hhf := HDP.out.fr; have hlP := HDP.out.lt))
          obtain ⟨xP, hxP⟩ : ∃ x, x = wP.setCell ⟨w7.heap.size, 0, none⟩ (.slice (some ⟨g, 0, none⟩) zl.length cg) := ⟨_, rfl⟩
          rw [← hxP]
          have HDQ : Hid (LS w7 xP v1 (some ⟨g, 0, none⟩) zl.length cg zl L1) := by rw [hxP]; exact HDP.out.put (fg.lower (by omega))
          have cx0 : xP.cell? ⟨xb, 0, none⟩ = some (.int .i64 t) := by rw [hxP]; exact (World.cell?_setCell_other _ _ _ _ (by simp; try omega)).trans cx0
          have cx1 : xP.cell? ⟨xb, 1, none⟩ = some (.int .i64 v) := by rw [hxP]; exact (World.cell?_setCell_other _ _ _ _ (by simp; try omega)).trans cx1
          have zQ : xb < xP.heap.size := by rw [hxP]; simpa using zP
          have hne : Hid (∀ k, (Value.slice (some ⟨g, 0, none⟩) zl.length cg).ownBlock = some k → v1.ownBlock ≠ some k) := fun k hk e => by
            have := lv.out k e
            injection hk with hk
            have e2 : g = k := hk
            omega
          clear hxP HDP fg hbP HBP hh0 hhf hcap hsm HDx HBx hlP
          go_upto_region 21 with (first
            | (at_builtin; refine wpList_append_own _ rfl _ _ 33 rfl (w7.heap.size + 1) 37 i0 _ 2 16 Try.underlying33 hi hz0 hz1 hz2 rfl (by decide) v1 L1.length (flat L1) rfl (HDQ.out.own.alloc _) ⟨xP.heap.size, 0, none⟩ 1 1 [.int .i64 t, .int .i64 v] rfl rfl (pair_news (by go_simp) (by go_simp)) (flat_one' [(t, v)]) (by rw [HL.out]; unfold maxLen; omega) (by rw [HL.out]; omega) (by simp; omega) ?_; intro v' wA hown' hgr hnil'; have hown2 : wA.ownsRow (w7.heap.size + 1) 37 2 v' L2.length (flat L2) := (by rw [← HE.out, flat_append, List.length_append]; exact hown'); obtain ⟨aN, nN, cN, rfl, hfN⟩ := own_fv hown2; obtain ⟨hnN, hsN⟩ := hfN.smp; subst hnN; have HDA : Hid (LS w7 wA (.slice aN L2.length cN) (some ⟨g, 0, none⟩) zl.length cg zl L2) := HDQ.out.app hgr hne.out hown2; have hgo := OnlyO.of_grown hgr; have cx1 := (hgo.cell (p := ⟨xb, 1, none⟩) (by simp; omega) (fun e => by have := lv.out xb e; omega)).trans (show _ = some (.int .i64 v) from by go_simp); have HSM : Hid (Smp wA.heap.size wA aN L2) := hsN; clear hown' hgr hnil' hown2 hfN hsN hgo))
          obtain ⟨r, hr1, hr2⟩ := HBE.out
          have HR1 : Hid (bestOf zl = r) := hr1
          have HR2 : Hid (L2.foldl (bestF most (t - 30)) v = r) := hr2
          have hL13 : L2.length ≤ 13 := by rw [HL2.out]; omega
          have hw30 : IntKind.i64.wrap (t - 30) = t - 30 := by rw [IntKind.wrap_i64]; omega
          have HBA : Hid (Below w.heap.size w wA) := below_two HB7.out HDA.out.bel
          clear hr1 hr2 HBE HDQ hne lv HZ HE cx0
          go_wp2
          go_loopw [16, 17] (fun sb sk wq => ∃ (k : Nat) (b : Int), sb = .int .i64 b ∧ sk = .int .i64 k ∧ k ≤ L2.length ∧ Hid ((L2.take k).foldl (bestF most (t - 30)) v = b) ∧ wA = wq) (fun _ sk _ => L2.length - (intOf sk).toNat)
          case atStart => exact ⟨0, v, rfl, rfl, by omega, rfl, rfl⟩
          case round =>
            obtain ⟨k, b, rfl, rfl, hk, HF, rfl⟩ := hrel
            by_cases hlk : k < L2.length
            · obtain ⟨lb, lo, rfl, hlb, d0, d1⟩ := HSM.out.at (Below.refl _ _) k hlk
              have HN0 := fold_next hlk HF.out
              obtain ⟨A, hA⟩ : ∃ A, L2[k].1 = A := ⟨_, rfl⟩
              obtain ⟨V, hV⟩ : ∃ V, L2[k].2 = V := ⟨_, rfl⟩
              rw [hA] at d0
              rw [hV] at d1
              have HN : Hid ((L2.take (k + 1)).foldl (bestF most (t - 30)) v = if t - 30 ≤ A ∧ beatV most V b = true then V else b) := by
                show _ = _
                rw [HN0]
                unfold bestF
                rw [hA, hV]
              clear HN0 hA hV HF
              have hlk' : (k : Int) < (L2.length : Int) := by omega
              have hk0 : (0 : Int) ≤ (k : Int) := by omega
              by_cases hA : t - 30 ≤ A
              · have hA' : decide (t - 30 ≤ A) = true := decide_eq_true hA
                cases most
                · by_cases hV : V < b
                  · have hV' : decide (V < b) = true := decide_eq_true hV
                    have HN2 : Hid ((L2.take (k + 1)).foldl (bestF false (t - 30)) v = V) := HN.out.trans (if_pos ⟨hA, by unfold beatV; simpa using hV⟩)
                    clear HN
                    go_wp2
                    go_roundw
                    case rel => exact ⟨k + 1, V, rfl, by go_num, by omega, HN2, by simp⟩
                    case measure => first | (simp [intOf]; done) | (simp [intOf]; omega)
                  · have hV' : decide (V < b) = false := decide_eq_false hV
                    have HN2 : Hid ((L2.take (k + 1)).foldl (bestF false (t - 30)) v = b) := HN.out.trans (if_neg (fun h => hV (by have := h.2; unfold beatV at this; simpa using this)))
                    clear HN
                    go_wp2
                    go_roundw
                    case rel => exact ⟨k + 1, b, rfl, by go_num, by omega, HN2, by simp⟩
                    case measure => first | (simp [intOf]; done) | (simp [intOf]; omega)
                · by_cases hV : b < V
                  · have hV' : decide (b < V) = true := decide_eq_true hV
                    have HN2 : Hid ((L2.take (k + 1)).foldl (bestF true (t - 30)) v = V) := HN.out.trans (if_pos ⟨hA, by unfold beatV; simpa using hV⟩)
                    clear HN
                    go_wp2
                    go_roundw
                    case rel => exact ⟨k + 1, V, rfl, by go_num, by omega, HN2, by simp⟩
                    case measure => first | (simp [intOf]; done) | (simp [intOf]; omega)
                  · have hV' : decide (b < V) = false := decide_eq_false hV
                    have HN2 : Hid ((L2.take (k + 1)).foldl (bestF true (t - 30)) v = b) := HN.out.trans (if_neg (fun h => hV (by have := h.2; unfold beatV at this; simpa using this)))
                    clear HN
                    go_wp2
                    go_roundw
                    case rel => exact ⟨k + 1, b, rfl, by go_num, by omega, HN2, by simp⟩
                    case measure => first | (simp [intOf]; done) | (simp [intOf]; omega)
              · have hA' : decide (t - 30 ≤ A) = false := decide_eq_false hA
                have HN2 : Hid ((L2.take (k + 1)).foldl (bestF most (t - 30)) v = b) := HN.out.trans (if_neg (fun h => hA h.1))
                clear HN
                go_wp2
                go_roundw
                case rel => exact ⟨k + 1, b, rfl, by go_num, by omega, HN2, by simp⟩
                case measure => first | (simp [intOf]; done) | (simp [intOf]; omega)
            · obtain rfl : k = L2.length := by omega
              obtain rfl : b = r := by rw [← HF.out, List.take_length]; exact HR2.out
              have hh0 := HDA.out.hc
              have hsmA := HDA.out.fv.smp
              go_wp2_with (first
                | (go_at_call 23; refine (implBest_any cg hsmA.2 (Nat.le_refl _)).mono ?_; rintro e wB ⟨rfl, hbB⟩; rw [HR1.out]; have HBB : Hid (Below w.heap.size w wB) := below_two HBA.out hbB; have HDB : Hid (LS w7 wB (.slice aN L2.length cN) (some ⟨g, 0, none⟩) zl.length cg zl L2) := HDA.out.next hbB)
                | (go_at_call 14; refine (pickN_any yQc 12 (by omega) (by omega) (by simp; omega) yQ).mono ?_; rintro e wZ ⟨u, rfl, u0, u1, _, rfl⟩; have hwu : IntKind.i64.wrap (t + u) = t + u := (by rw [IntKind.wrap_i64]; omega); have HDZ : Hid (LS w7 wZ (.slice aN L2.length cN) (some ⟨g, 0, none⟩) zl.length cg zl L2) := HDY.out)
                | (at_builtin; refine wpList_pushL [.int .u8 (j : Int), .int .u8 1] (by simp) (by simp) (hBY.out 1 (by omega) (by omega)) rfl _ _ rfl rfl rfl (twos_owned _ (Nat.le_refl _) _ _) ((row.mono (below_two HBB.out (new_below _ _))).up HBB.out.size) hnil.out hs (by simp) ?_; intro yQa yQc wY yQ hbp; have hbY := (new_below _ _).trans hbp; have HDY : Hid (LS w7 wY (.slice aN L2.length cN) (some ⟨g, 0, none⟩) zl.length cg zl L2) := HDB.out.next hbY))
              go_roundw
              case rel => exact ⟨j + 1, t + u, _, _, _, _, _, _, rfl, rfl, by go_num, by omega, by omega, by omega, HDZ, HW2.out.later (by omega), HL2⟩
              case measure => first | (simp [intOf]; done) | (simp [intOf]; omega)
        · obtain rfl : j = 12 := by omega
          go_wp2
          go_ret
          exact ⟨rfl, HBW.out⟩
    · have HP : Hid (¬ PushOk most ys (p, q) win) := hP
      clear hP
      go_upto_region 5 with (first
        | (go_at_call 19; refine (implPush_no c hsm.2 HP.out).mono ?_; rintro e w2 ⟨rfl, hb2⟩; have cf := (hb2.cell (p := ⟨fb, 0, none⟩) zf).trans cf; have cs0 := (hb2.cell (p := ⟨sb, 0, none⟩) zs).trans cs0; have cs1 := (hb2.cell (p := ⟨sb, 1, none⟩) zs).trans cs1; have zf := Nat.lt_of_lt_of_le zf hb2.size; have zs := Nat.lt_of_lt_of_le zs hb2.size; have F2 := F1.out.next hb2; have hbw := below_two hbw hb2))
      obtain ⟨x2, hx2⟩ : ∃ x, x = w2.alloc (.cells #[.slice none 0 0] 35) := ⟨_, rfl⟩
      obtain ⟨gb, hgb⟩ : ∃ b, b = w2.heap.size := ⟨_, rfl⟩
      rw [← hx2, ← hgb]
      have cg0 : x2.cell? ⟨gb, 0, none⟩ = some (.slice none 0 0) := by rw [hx2, hgb]; go_simp
      have zg : gb < x2.heap.size := by rw [hx2, hgb]; simp
      have hb3 : Below w2.heap.size w2 x2 := by rw [hx2]; exact new_below _ _
      clear hx2 hgb
      have cf := (hb3.cell (p := ⟨fb, 0, none⟩) zf).trans cf
      have cs0 := (hb3.cell (p := ⟨sb, 0, none⟩) zs).trans cs0
      have cs1 := (hb3.cell (p := ⟨sb, 1, none⟩) zs).trans cs1
      have zf := Nat.lt_of_lt_of_le zf hb3.size
      have zs := Nat.lt_of_lt_of_le zs hb3.size
      have F3 := F2.next hb3
      have hbw := below_two hbw hb3
      have hsm3 := F3.smp
      go_upto_region 6 with (first
        | (go_at_call 20; refine (specPush_no c hsm3.2 HP.out).mono ?_; rintro e w4 ⟨rfl, hb4⟩; have cg0 := (hb4.cell (p := ⟨gb, 0, none⟩) zg).trans cg0; have zg := Nat.lt_of_lt_of_le zg hb4.size; have hbw := below_two hbw hb4))
      obtain ⟨x4, hx4⟩ : ∃ x, x = w4.alloc (.cells #[.slice none 0 0] 35) := ⟨_, rfl⟩
      obtain ⟨xb, hxb⟩ : ∃ b, b = w4.heap.size := ⟨_, rfl⟩
      rw [← hx4, ← hxb]
      have cx0 : x4.cell? ⟨xb, 0, none⟩ = some (.slice none 0 0) := by rw [hx4, hxb]; go_simp
      have hb5 : Below w4.heap.size w4 x4 := by rw [hx4]; exact new_below _ _
      clear hx4 hxb
      have cg0 := (hb5.cell (p := ⟨gb, 0, none⟩) zg).trans cg0
      have zg := Nat.lt_of_lt_of_le zg hb5.size
      have hbw := below_two hbw hb5
      go_wp2_with (first
        | (go_at_call 21; refine (likeF_same (.inr ⟨rfl, rfl⟩) (.inr ⟨rfl, rfl⟩) (lo := 0) (lo' := 0) (ys := []) (by simp)).mono ?_; rintro e w6 ⟨rfl, hb6⟩; have cg0 := (hb6.cell (p := ⟨gb, 0, none⟩) zg).trans cg0; have zg := Nat.lt_of_lt_of_le zg hb6.size; have hbw := below_two hbw hb6))
      go_ret
      exact ⟨rfl, hbw⟩
  · have hbig : (4096 : Int) < (len0 : Int) := by omega
    go_enter Try.func5, Try.ntmps5
    go_wp2
    go_ret
    exact ⟨rfl, Below.refl _ _⟩

/-! ### THE ROW's STEP: WRITTEN OUT: LEAVE IT -/
set_option maxRecDepth 100000 in
theorem lifted (os : Os) (started : os.Started) (H : Type) (enc : TypeId × Value → H) :
    ReturnsInHanded {} Try.checked os 5 .any (Rows.fnFilteredSpec.pre6 enc Try.prog Try.f5 Rows.fnFilteredRow.domain false) (Rows.fnFilteredSpec.post enc Try.prog Try.f5 false true false false) := by
  refine returnsInHanded_of_change (C := Try.checked) own started (by kernel_rfl) Try.func5
    (ChangeSpec.witness6 (enc := enc) (C := Try.checked) false ⟨#[], #[.slice none 0 0], []⟩ 8 (by kernel_rfl) (by kernel_rfl) (by kernel_rfl) (by kernel_rfl)) ?_
  intro W base args ds gs before hval0 hW hcnd _
  have hval : ∀ (j : Nat) t v, Try.f5.params[j]? = some t → args[j]? = some v → Value.okWide Try.prog W .any base t v := hval0
  have hW' := hW
  obtain ⟨p, q, hA0, hV, rfl, hfz, hnd⟩ := hW
  have hA : DataW.TrodAll enc Try.prog W 0 (fun _ => true) true Try.f5.params.toList args.toList ds p := hA0
  rw [Try.params5] at hA hval
  obtain ⟨v0, vs0, d0, ds0, p0, q0, hargs, rfl, rfl, h0, r0⟩ := trodAll_cons hA
  obtain ⟨rfl, rfl, rfl⟩ := trodAll_nil r0
  obtain rfl : args = #[v0] := by cases args; simp_all
  obtain ⟨rfl, rfl⟩ := trodVars_none hV
  obtain ⟨a0, len0, cap0, rfl⟩ := okWide_slice Try.underlying22 (hval 0 22 v0 rfl rfl)
  have k0 := h0
  have lt0 : ∀ x ∈ p0, x.block < W.heap.size := by obtain ⟨m, hm⟩ := k0; exact DataW.trod_lt m _ _ _ hm
  obtain ⟨z0, w0⟩ : ∃ zs, IsRow .u8 W a0 len0 cap0 zs := by
    obtain ⟨fuel, hf⟩ := h0
    rcases open_ints Try.underlying22 Try.underlying5 (by kernel_rfl) hf with ⟨hcs, _⟩ | ⟨x, l, c, zs, hcs, _, hl, hm, hz, _, hcell, hwz⟩
    · simp [Value.cells] at hcs
      obtain ⟨rfl, rfl, rfl⟩ := hcs
      exact ⟨[], .inl ⟨rfl, rfl, rfl, rfl⟩⟩
    · simp [Value.cells] at hcs
      obtain ⟨rfl, rfl, rfl⟩ := hcs
      exact ⟨zs, .inr ⟨_, rfl, hl, hm, by simpa using hz, hcell, hwz⟩⟩
  clear hA0 hval0
  refine (walk a0 len0 cap0 z0 W w0).mono fun e W' ⟨he, bel⟩ => ?_
  subst he
  exact ⟨_, rfl, _, _, _, [], _, [], hW', trodAll_mk1 (shut_bool Try.underlying4 _), (trodAll_cons_mk (Below.trod laidOut (by kernel_rfl) (of_decide_eq_true (by kernel_rfl)) k0 bel lt0) trodAll_mk0), rfl, bel.frame _, fun h => by cases h⟩

theorem over : Rows.fnFilteredRow.holds Try.pinned (OpenSpec.ofChange Rows.fnFilteredSpec) :=
  OpenClaim.holds_of_wide 5 Try.f5 rfl rfl rfl rfl rfl rfl rfl ⟨rfl, rfl, rfl, rfl, rfl⟩ rfl rfl rfl rfl rfl (by kernel_rfl) Try.func5 (by kernel_rfl)
    (of_decide_eq_true (by kernel_rfl)) (by unfold Func.isWrapper; first | (rw [if_pos (by decide +kernel)]; kernel_rfl) | (rw [if_neg (by decide +kernel)]; exact ⟨rfl, rfl⟩))
    (fun os started H enc _ => lifted os started H enc)

/-- ████ THE STATEMENT ████ -/
theorem proved : Rows.FnFilteredSaid := over
#print axioms proved
end Go.Proofs.Ytmophpbfaonfmab.fnFiltered
namespace Go.Proofs.Ytmophpbfaonfmab
theorem fnFiltered_holds : Rows.FnFilteredSaid := fnFiltered.proved
#print axioms fnFiltered_holds
end Go.Proofs.Ytmophpbfaonfmab
