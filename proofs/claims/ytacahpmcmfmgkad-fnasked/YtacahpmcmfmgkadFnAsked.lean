/- Proved: whatever the bytes, the law FnAsked returns true (at the Lend, the leaf, the time and the size that the model draws of them impl's Ask answers as spec's does; who is asked lies on the leaf's path and the spending succeeds; a leaf whose own bucket has enough is asked itself; its Top has just so much less; where nobody lends nothing is spent), and the bytes read as before; no condition. -/
import Derived.Test.YtacahpmcmfmgkadRows
import Derived.WalkKit
import Derived.ProofKit
import Derived.OpenShut
import Derived.ShutString
import Derived.ChangeOld
import Derived.Below
import Derived.Test.YtacahpmcmfmgkadDraw7f
import Derived.Test.YtacahpmcmfmgkadImplAsk
import Derived.Test.YtacahpmcmfmgkadSpendBoth
import Derived.Test.YtacahpmcmfmgkadTreeLaw
import Derived.Test.YtacahpmcmfmgkadAskMath
import Derived.Test.YtacahpmcmfmgkadGrpG
import Derived.Test.YtacahpmcmfmgkadGrpN
import Derived.Deep.DeepCutAuto
import Derived.Deep.RegionHeld3
namespace Go.Proofs.Ytacahpmcmfmgkad.fnAsked
open Go.ChangeShapes Go.WideShapes Go.ChangeAt Go.RowKit
open Go.ChangeMaps (open_string shut_string)
set_option linter.unusedVariables false

theorem own : ownKnob Try.prog.godebug = none := by kernel_rfl
theorem laidOut : laidOutB Try.prog = true := by kernel_rfl

/-- WHAT THE WALK IS TOLD OF A SLICE OF INTEGERS THAT CAME IN: it is nil; or it leads to a row of 'cap' cells, the numbers 'zs' (the first 'len' are its elements, the rest its spare room), each fitting its kind. -/
def IsRow (k : IntKind) (w : World) (a : Option Addr) (len cap : Nat) (zs : List Int) : Prop :=
  (a = none ∧ len = 0 ∧ cap = 0 ∧ zs = []) ∨
  ∃ x, a = some x ∧ len ≤ cap ∧ cap ≤ maxLen ∧ zs.length = cap ∧ (∀ i, i < zs.length → w.cell? (x.add i) = some (.int k (zs.getD i 0))) ∧ ∀ n ∈ zs, (Lit.int k n).wf = true

set_option linter.unusedSimpArgs false
set_option maxRecDepth 100000
theorem row_of {w : World} {a : Option Addr} {len cap : Nat} {zs : List Int} (h : IsRow .u8 w a len cap zs) : Row w.heap.size a len w := by
  intro i hi
  rcases h with ⟨rfl, rfl, rfl, rfl⟩ | ⟨x, rfl, hl, hm, hz, hcell, hwz⟩
  · omega
  · obtain ⟨b, off, spot⟩ := x
    have hspot : spot = none := by simpa [Addr.add] using World.cell?_spot (hcell 0 (by omega))
    subst hspot
    have hc := hcell i (by omega)
    have hc' : w.cell? ⟨b, off + i, none⟩ = some (.int .u8 (zs.getD i 0)) := by
      by_cases h0 : i = 0
      · subst h0; simpa [Addr.add] using hc
      · simpa [Addr.add, h0] using hc
    have hlt : i < zs.length := by omega
    have hm : zs.getD i 0 ∈ zs := by simp [List.getD, List.getElem?_eq_getElem hlt]
    obtain ⟨z0, z1⟩ := bounds_u8 (hwz _ hm)
    exact ⟨b, off, zs.getD i 0, rfl, World.block_lt_of_cell? w _ hc', hc', z0, z1⟩
theorem fld2 (a b c d : Int) (w : World) : (Instr.field 36 (.agg #[.int .i64 a, .int .i64 b, .int .i64 c, .int .i64 d]) 2).run Try.prog w = .ok (.int .i64 c) w := by kernel_rfl

/-! ### STEP 1: THE WALK: the Go text returns true, AND WRITES NOTHING THAT WAS THERE: 'Below w.heap.size w w'' (Derived/Below.lean: '.refl', '.alloc', '.drew', '.setCell' at a new block, '.trans'). Open each 'IsRow' by 'rcases' AHEAD of 'go_enter'; part every test ahead of the walk. -/
set_option maxHeartbeats 16000000 in
theorem walk (a0 : Option Addr) (len0 cap0 : Nat) (z0 : List Int) (w : World) (w0 : IsRow .u8 w a0 len0 cap0 z0) :
    Calls Try.prog 3 #[.slice a0 len0 cap0] w fun e w' => e = .returned (.bool true) ∧ Below w.heap.size w w' := by
  have row := row_of w0
  by_cases hs : len0 ≤ 4096
  · go_enter Try.func3, Try.ntmps3
    go_upto_region 4 with (first
      | (go_at_call 9; refine (drawAsk_any cap0 hs row (Nat.le_refl _)).mono ?_; rintro e vD ⟨a1, c1, a2, c2, a3, c3, T, O, P, leaf, now, n, rfl, ⟨qT, qO, qP⟩, ⟨lT, lO, lP⟩, hbw⟩)
      | go_in)
    obtain ⟨v1, hv⟩ : ∃ v, v = vD.alloc (.cells #[.slice a1 T.length c1, .slice a2 O.length c2, .slice a3 P.length c3] 27) := ⟨_, rfl⟩
    rw [← hv]
    have hbA : Below vD.heap.size vD v1 := by rw [hv]; exact new_below _ _
    have cA0 : v1.cell? ⟨vD.heap.size, 0, none⟩ = some (.slice a1 T.length c1) := by rw [hv]; go_simp
    have cA1 : v1.cell? ⟨vD.heap.size, 1, none⟩ = some (.slice a2 O.length c2) := by rw [hv]; go_simp
    have cA2 : v1.cell? ⟨vD.heap.size, 2, none⟩ = some (.slice a3 P.length c3) := by rw [hv]; go_simp
    have zA : vD.heap.size < v1.heap.size := by rw [hv]; simp
    clear hv
    obtain ⟨b3, hbb⟩ : ∃ b, b = vD.heap.size := ⟨_, rfl⟩
    rw [← hbb] at cA0 cA1 cA2 ⊢
    have yb3 : b3 < v1.heap.size := by omega
    clear hbb
    have hbw := below_step hbw hbA
    have qT := qT.here hbA
    have qO := qO.here hbA
    have qP := qP.here hbA
    have CC : Hid (Cells v1 [(b3, 0, .slice a1 T.length c1), (b3, 1, .slice a2 O.length c2), (b3, 2, .slice a3 P.length c3)]) := ⟨⟨yb3, cA0⟩, ⟨yb3, cA1⟩, ⟨yb3, cA2⟩, trivial⟩
    clear hbA cA0 cA1 cA2 yb3 zA
    have ⟨⟨kz0, k0⟩, ⟨kz1, k1⟩, ⟨kz2, k2⟩, _⟩ := CC.out
    obtain ⟨A, hA⟩ : ∃ A, askAns T O P leaf now n = A := ⟨_, rfl⟩
    have HA : Hid (askAns T O P leaf now n = A) := hA
    clear hA
    go_upto_region 5 with (go_at_call 10; refine (iAsk_any c1 c2 c3 leaf now n qT qO qP).mono ?_; rintro e v2 ⟨rfl, hb2⟩; rw [HA.out]; have hbw := below_step hbw hb2; have qT := qT.here hb2; have qO := qO.here hb2; have qP := qP.here hb2; have CC : Hid (Cells v2 [(b3, 0, .slice a1 T.length c1), (b3, 1, .slice a2 O.length c2), (b3, 2, .slice a3 P.length c3)]) := CC.out.next hb2; have ⟨⟨kz0, k0⟩, ⟨kz1, k1⟩, ⟨kz2, k2⟩, _⟩ := CC.out)
    go_upto_region 7 with (go_at_call 11; refine (specAsk_any c1 c2 c3 leaf now n qT qO qP).mono ?_; rintro e v3 ⟨rfl, hb3⟩; rw [HA.out]; have hbw := below_step hbw hb3; have qT := qT.here hb3; have qO := qO.here hb3; have qP := qP.here hb3; have CC : Hid (Cells v3 [(b3, 0, .slice a1 T.length c1), (b3, 1, .slice a2 O.length c2), (b3, 2, .slice a3 P.length c3)]) := CC.out.next hb3; have ⟨⟨kz0, k0⟩, ⟨kz1, k1⟩, ⟨kz2, k2⟩, _⟩ := CC.out)
    obtain ⟨XT, XO, XP, f, hX⟩ : ∃ XT XO XP f, spendT T O P leaf now n = XT ∧ spendO T O P leaf now n = XO ∧ spendP T O P leaf now n = XP ∧ spendF T O P leaf now n = f := ⟨_, _, _, _, rfl, rfl, rfl, rfl⟩
    have HX : Hid (spendT T O P leaf now n = XT ∧ spendO T O P leaf now n = XO ∧ spendP T O P leaf now n = XP ∧ spendF T O P leaf now n = f) := hX
    clear hX
    go_upto_region 8 with (go_at_call 12; refine (iSpend_any c1 c2 c3 leaf now n qT qO qP).mono ?_; rw [HX.out.1, HX.out.2.1, HX.out.2.2.1, HX.out.2.2.2]; rintro e v4 ⟨sa81, sn81, sc81, sa82, sn82, sc82, sa83, sn83, sc83, rfl, hlv, hb4⟩; have hbw := below_step hbw hb4; have qT := qT.here hb4; have qO := qO.here hb4; have qP := qP.here hb4; have CC : Hid (Cells v4 [(b3, 0, .slice a1 T.length c1), (b3, 1, .slice a2 O.length c2), (b3, 2, .slice a3 P.length c3)]) := CC.out.next hb4; have ⟨⟨kz0, k0⟩, ⟨kz1, k1⟩, ⟨kz2, k2⟩, _⟩ := CC.out)
    have zw := hbw.size
    obtain ⟨v5, hv⟩ : ∃ v, v = v4.alloc (.cells #[.slice sa81 sn81 sc81, .slice sa82 sn82 sc82, .slice sa83 sn83 sc83] 27) := ⟨_, rfl⟩
    rw [← hv]
    have hbA : Below v4.heap.size v4 v5 := by rw [hv]; exact new_below _ _
    have cA0 : v5.cell? ⟨v4.heap.size, 0, none⟩ = some (.slice sa81 sn81 sc81) := by rw [hv]; go_simp
    have cA1 : v5.cell? ⟨v4.heap.size, 1, none⟩ = some (.slice sa82 sn82 sc82) := by rw [hv]; go_simp
    have cA2 : v5.cell? ⟨v4.heap.size, 2, none⟩ = some (.slice sa83 sn83 sc83) := by rw [hv]; go_simp
    have zA : v4.heap.size < v5.heap.size := by rw [hv]; simp
    clear hv
    obtain ⟨b8, hbb⟩ : ∃ b, b = v4.heap.size := ⟨_, rfl⟩
    rw [← hbb] at cA0 cA1 cA2 ⊢
    have yb8 : b8 < v5.heap.size := by omega
    clear hbb
    have hbw := below_step hbw hbA
    have qT := qT.here hbA
    have qO := qO.here hbA
    have qP := qP.here hbA
    have CC : Hid (Cells v5 [(b3, 0, .slice a1 T.length c1), (b3, 1, .slice a2 O.length c2), (b3, 2, .slice a3 P.length c3), (b8, 0, .slice sa81 sn81 sc81), (b8, 2, .slice sa83 sn83 sc83)]) := by
      obtain ⟨d0, d1, d2, _⟩ := CC.out.next hbA
      exact ⟨d0, d1, d2, ⟨yb8, cA0⟩, ⟨yb8, cA2⟩, trivial⟩
    have xT := hlv.t.quad
    have xP := hlv.p.quad
    have q8 := xP.2.here hbA
    obtain ⟨e1, e2⟩ : sn81 = XT.length ∧ sn83 = XP.length := ⟨xT.1, xP.1⟩
    subst e1 e2
    clear hbA cA0 cA1 cA2 yb8 zA xT xP hlv
    clear kz0 k0 kz1 k1 kz2 k2
    have ⟨⟨kz0, k0⟩, ⟨kz1, k1⟩, ⟨kz2, k2⟩, ⟨kz3, k3⟩, ⟨kz4, k4⟩, _⟩ := CC.out
    by_cases hn : A < 0
    · have hno := asked_no (T := T) (O := O) (P := P) (leaf := leaf) (now := now) (n := n) (by rw [HA.out]; exact hn)
      rw [HA.out, HX.out.1, HX.out.2.2.2] at hno
      obtain ⟨hf, hno⟩ := hno
      subst hf
      rcases hno with ⟨rfl, rfl⟩ | ⟨rfl, rfl, hl⟩
      · go_wp2
        go_ret
        exact ⟨rfl, hbw⟩
      · have hl' : (0 : Int) < (XT.length : Int) := by omega
        go_wp2
        go_ret
        exact ⟨rfl, hbw⟩
    · have hn' : 0 ≤ A := by omega
      have hy := asked_of (T := T) (O := O) (P := P) (leaf := leaf) (now := now) (n := n) (by rw [HA.out]; exact hn')
      rw [HA.out] at hy
      have hf : f = true := HX.out.2.2.2.symm.trans hy.spent
      subst hf
      have hd := hy.told
      obtain ⟨m, rfl⟩ : ∃ m : Nat, leaf = m := ⟨leaf.toNat, by have := hd.l0; omega⟩
      have hm : m < T.length := by have := hd.l1; omega
      have hmO : m < O.length := by rw [hd.lend.lo]; exact hm
      have hmP : m < P.length := by rw [hd.lend.lp]; exact hm
      have pk := pair_ok (hd.lend.pair m hm hmO hmP)
      have hsg := seg_num hd.isSeg
      have htm := hd.isTime
      obtain ⟨xo, hxo⟩ : ∃ x, O[m] = x := ⟨_, rfl⟩
      obtain ⟨xp, hxp⟩ : ∃ x, P[m] = x := ⟨_, rfl⟩
      rw [hxo, hxp] at pk
      obtain ⟨ro, uo, lo0, tq⟩ := xo
      obtain ⟨rp, up, lp0, tp⟩ := xp
      have oka : bokB ro uo lo0 tq = true := pk.oka
      have okb : bokB rp up lp0 tp = true := pk.okb
      have no1 := bok_num oka
      have no2 := bok_num okb
      have fb1 := fill_bounds (t := tq) (now := now) no1.2.1 no1.2.2.1 no1.1.1
      have fb2 := fill_bounds (t := tp) (now := now) no2.2.1 no2.2.2.1 no2.1.1
      obtain ⟨lo, hlo⟩ : ∃ x, fillL ro uo lo0 tq now = x := ⟨_, rfl⟩
      obtain ⟨lp, hlp⟩ : ∃ x, fillL rp up lp0 tp now = x := ⟨_, rfl⟩
      obtain ⟨no, hno⟩ : ∃ x, fillT tq now = x := ⟨_, rfl⟩
      obtain ⟨np, hnp⟩ : ∃ x, fillT tp now = x := ⟨_, rfl⟩
      have HFO : Hid (fillOf ro uo lo0 tq now = (ro, uo, lo, no)) := by show fillOf ro uo lo0 tq now = _; unfold fillOf; rw [oka, htm, hlo, hno]; rfl
      have HFP : Hid (fillOf rp up lp0 tp now = (rp, up, lp, np)) := by show fillOf rp up lp0 tp now = _; unfold fillOf; rw [okb, htm, hlp, hnp]; rfl
      have HOW : Hid (1000000000 * n ≤ lo → A = (m : Int)) := fun h => hy.own (by
        have hf' : m < (fills now O).length := by rw [fills_length]; exact hmO
        rw [levelOf_at hf', fills_at hmO hf', hxo]
        show 1000000000 * n ≤ fillL ro uo lo0 tq now
        rw [hlo]; exact h)
      have HXP : Hid (∃ h : m < XP.length, XP[m].2.2.1 = lp - 1000000000 * n) := by
        obtain ⟨q, e1, e2⟩ := hy.top
        rw [HX.out.2.2.1, Int.toNat_natCast] at e2
        rw [Int.toNat_natCast] at e1
        have hf' : m < (fills now P).length := by rw [fills_length]; exact hmP
        rw [List.getElem?_eq_getElem hf', fills_at hmP hf', hxp] at e1
        have e1 := Option.some.inj e1
        obtain ⟨h1, e2⟩ := List.getElem?_eq_some_iff.1 e2
        refine ⟨h1, ?_⟩
        rw [e2, ← e1]
        show fillL rp up lp0 tp now - 1000000000 * n = _
        rw [hlp]
      rw [hlo] at fb1
      rw [hlp] at fb2
      have fb10 := fb1.1
      have fb11 := fb1.2
      have fb20 := fb2.1
      have fb21 := fb2.2
      have ub1 := no1.2.1.2
      have ub2 := no2.2.1.2
      have HPL : Hid ((pathOf T (m : Int)).contains A = true) := hy.on
      have HWL : Hid (PWell T) := hd.lend.tree.sound.well
      have hmi : (m : Int) < (T.length : Int) := by omega
      have hmO' : (m : Int) < (O.length : Int) := by omega
      have hmP' : (m : Int) < (P.length : Int) := by omega
      have hT30 : (T.length : Int) ≤ 30 := by omega
      have hsg0 := hsg.1
      have hsg1 := hsg.2
      clear hlo hlp hno hnp hy hd pk no1 no2 fb1 fb2 oka okb htm hsg hn
      go_upto_region 12 with (fail)
      go_loop [10, 11] (fun on c => ∃ (cc : Int) (g : Bool) (k : Nat), on = .bool g ∧ c = .int .i64 cc ∧ -1 ≤ cc ∧ cc < (T.length : Int) ∧ Hid ((pathOf T (m : Int)).drop k = pathOf T cc) ∧ Hid (((pathOf T (m : Int)).take k).contains A = g)) (fun _ c => (intOf c + 1).toNat)
      case atStart => exact ⟨(m : Int), false, 0, rfl, rfl, by omega, by omega, by show List.drop 0 _ = _; rw [List.drop_zero], by show (List.take 0 _).contains A = false; rw [List.take_zero]; rfl⟩
      case round =>
        obtain ⟨cc, g, k, rfl, rfl, y0, y1, HD, HG⟩ := hrel
        by_cases hc : 0 ≤ cc
        · obtain ⟨i, rfl⟩ : ∃ i : Nat, cc = i := ⟨cc.toNat, by omega⟩
          have hi : i < T.length := by omega
          obtain ⟨bt, ot, rfl, hbt, t0, t1, t2, t3⟩ := qT i hi
          have hst := path_step HWL.out hc y1
          have hpi := parent_in HWL.out hc y1
          rw [parent_at hi] at hst hpi
          obtain ⟨p, hp⟩ : ∃ p, T[i].1 = p := ⟨_, rfl⟩
          rw [hp] at t0 hst hpi
          have hk : k < (pathOf T (m : Int)).length := by
            rcases Nat.lt_or_ge k (pathOf T (m : Int)).length with h | h
            · exact h
            · have e := HD.out
              rw [List.drop_eq_nil_of_le h, hst] at e
              cases e
          have hdr := List.drop_eq_getElem_cons hk
          rw [HD.out, hst] at hdr
          injection hdr with e1 e2
          have HD' : Hid ((pathOf T (m : Int)).drop (k + 1) = pathOf T p) := e2.symm
          have HG' : Hid (((pathOf T (m : Int)).take (k + 1)).contains A = (g || ((i : Int) == A))) := by
            show ((pathOf T (m : Int)).take (k + 1)).contains A = _
            rw [con_step hk, HG.out, ← e1]
          have hp0 := hpi.1
          have hp1 := hpi.2
          clear hst hpi hp e1 e2 HD HG
          cases g
          · rw [Bool.false_or] at HG'
            go_wp2
            go_round
            case rel => exact ⟨p, _, k + 1, rfl, rfl, hp0, by omega, HD', HG'⟩
            case measure => first | (simp [intOf]; done) | (simp [intOf]; omega)
          · rw [Bool.true_or] at HG'
            go_wp2
            go_round
            case rel => exact ⟨p, _, k + 1, rfl, rfl, hp0, by omega, HD', HG'⟩
            case measure => first | (simp [intOf]; done) | (simp [intOf]; omega)
        · have hg : g = true := by
            have e := HD.out
            rw [path_end (ts := T) (i := cc) (by omega)] at e
            have h1 := HG.out
            rw [List.take_of_length_le (List.drop_eq_nil_iff.1 e), HPL.out] at h1
            exact h1.symm
          subst hg
          clear HD HG
          obtain ⟨bo, oo, rfl, hbo, o0, o1, o2, o3⟩ := qO m hmO
          rw [hxo] at o0 o1 o2 o3
          simp only at o0 o1 o2 o3
          clear hxo
          go_upto_region 16 with (go_at_call 13; refine (specFill_any _ _ _ _ _ _).mono ?_; rintro e v6 ⟨rfl, hb6⟩; rw [HFO.out]; (try simp only [bkV]); have hbw := below_step hbw hb6; have qP := qP.here hb6; have q8 := q8.here hb6; have CC : Hid (Cells v6 [(b3, 0, .slice a1 T.length c1), (b3, 1, .slice (some ⟨bo, oo, none⟩) O.length c2), (b3, 2, .slice a3 P.length c3), (b8, 0, .slice sa81 XT.length sc81), (b8, 2, .slice sa83 XP.length sc83)]) := CC.out.next hb6)
          obtain ⟨v7, hv⟩ : ∃ v, v = v6.alloc (.cells #[.int .i64 ro, .int .i64 uo, .int .i64 lo, .int .i64 no] 36) := ⟨_, rfl⟩
          rw [← hv]
          have hbA : Below v6.heap.size v6 v7 := by rw [hv]; exact new_below _ _
          have cA0 : v7.cell? ⟨v6.heap.size, 0, none⟩ = some (.int .i64 ro) := by rw [hv]; go_simp
          have cA1 : v7.cell? ⟨v6.heap.size, 1, none⟩ = some (.int .i64 uo) := by rw [hv]; go_simp
          have cA2 : v7.cell? ⟨v6.heap.size, 2, none⟩ = some (.int .i64 lo) := by rw [hv]; go_simp
          have cA3 : v7.cell? ⟨v6.heap.size, 3, none⟩ = some (.int .i64 no) := by rw [hv]; go_simp
          have zA : v6.heap.size < v7.heap.size := by rw [hv]; simp
          clear hv
          obtain ⟨b12, hbb⟩ : ∃ b, b = v6.heap.size := ⟨_, rfl⟩
          rw [← hbb] at cA0 cA1 cA2 cA3 ⊢
          have yb12 : b12 < v7.heap.size := by omega
          clear hbb
          have hbw := below_step hbw hbA
          have qP := qP.here hbA
          have q8 := q8.here hbA
          obtain ⟨hX1, hX2⟩ := HXP.out
          obtain ⟨bp, op, rfl, hbp, p0, p1, p2, p3⟩ := qP m hmP
          rw [hxp] at p0 p1 p2 p3
          simp only at p0 p1 p2 p3
          obtain ⟨bx, ox, rfl, hbx, x0, x1, x2, x3⟩ := q8 m hX1
          rw [hX2] at x2
          have ⟨_, _, ⟨dz2, d2⟩, _, ⟨dz4, d4⟩, _⟩ := CC.out.next hbA
          have HS : Hid (∀ w', Below v7.heap.size v7 w' → (fun w' => w'.cell? ⟨b12, 2, none⟩ = some (.int .i64 lo) ∧ w'.cell? ⟨b8, 2, none⟩ = some (.slice (some ⟨bx, ox, none⟩) XP.length sc83) ∧ w'.cell? ⟨bx, ox + m * 4 + 2, none⟩ = some (.int .i64 (lp - 1000000000 * n)) ∧ w'.cell? ⟨b3, 2, none⟩ = some (.slice (some ⟨bp, op, none⟩) P.length c3) ∧ w'.cell? ⟨bp, op + m * 4, none⟩ = some (.int .i64 rp) ∧ w'.cell? ⟨bp, op + m * 4 + 1, none⟩ = some (.int .i64 up) ∧ w'.cell? ⟨bp, op + m * 4 + 2, none⟩ = some (.int .i64 lp0) ∧ w'.cell? ⟨bp, op + m * 4 + 3, none⟩ = some (.int .i64 tp)) w') := fun w' h => ⟨(h.cell (p := ⟨b12, 2, none⟩) yb12).trans cA2, (h.cell (p := ⟨b8, 2, none⟩) dz4).trans d4, (h.cell (p := ⟨bx, ox + m * 4 + 2, none⟩) hbx).trans x2, (h.cell (p := ⟨b3, 2, none⟩) dz2).trans d2, (h.cell (p := ⟨bp, op + m * 4, none⟩) hbp).trans p0, (h.cell (p := ⟨bp, op + m * 4 + 1, none⟩) hbp).trans p1, (h.cell (p := ⟨bp, op + m * 4 + 2, none⟩) hbp).trans p2, (h.cell (p := ⟨bp, op + m * 4 + 3, none⟩) hbp).trans p3⟩
          have hX1' : (m : Int) < (XP.length : Int) := by omega
          clear x0 x1 x3 hxp hX1 hX2 x2 p0 p1 p2 p3 hbx hbp qP q8 CC cA0 cA1 cA2 cA3 dz2 d2 dz4 d4 kz0 k0 kz1 k1 kz2 k2 kz3 k3 kz4 k4 qT qO o0 o1 o2 o3 hbo HXP yb12 zA hbA
          have hwn : IntKind.i64.wrap (1000000000 * n) = 1000000000 * n := by simp only [IntKind.wrap_i64, wrap64]; omega
          have hwl : IntKind.i64.wrap (lp - 1000000000 * n) = lp - 1000000000 * n := by simp only [IntKind.wrap_i64, wrap64]; omega
          have hfd := fld2 rp up lp np
          by_cases hlt : lo < 1000000000 * n
          · clear HOW
            have hdt : decide (lo < 1000000000 * n) = true := decide_eq_true hlt
            go_upto_region 16 with (fail)
            refine wp_region_held_drew (S := fun w' => w'.cell? ⟨b12, 2, none⟩ = some (.int .i64 lo) ∧ w'.cell? ⟨b8, 2, none⟩ = some (.slice (some ⟨bx, ox, none⟩) XP.length sc83) ∧ w'.cell? ⟨bx, ox + m * 4 + 2, none⟩ = some (.int .i64 (lp - 1000000000 * n)) ∧ w'.cell? ⟨b3, 2, none⟩ = some (.slice (some ⟨bp, op, none⟩) P.length c3) ∧ w'.cell? ⟨bp, op + m * 4, none⟩ = some (.int .i64 rp) ∧ w'.cell? ⟨bp, op + m * 4 + 1, none⟩ = some (.int .i64 up) ∧ w'.cell? ⟨bp, op + m * 4 + 2, none⟩ = some (.int .i64 lp0) ∧ w'.cell? ⟨bp, op + m * 4 + 3, none⟩ = some (.int .i64 tp)) (by kernel_rfl) (HS.out _ (Below.refl _ _).drew) (fun hS => ?_)
            refine wpAnyH_take (i := 0) (v := ?_) rfl (by kernel_rfl) (by kernel_rfl) (by kernel_rfl) (fun _ _ _ h => h) (Or.inl ⟨by rfl, ?_⟩) (by assumption) ?_
            rotate_left 1
            · (intro w' hSw; (try dsimp only at hSw); go_simp; try with_reducible rfl)
            try simp only [Act.put, List.setIfInBounds_toArray, List.set_cons_zero, List.set_cons_succ, List.getElem_toArray, List.getElem_cons_succ, List.getElem_cons_zero]
            refine wpAnyH_take (i := 1) (v := ?_) rfl (by kernel_rfl) (by kernel_rfl) (by kernel_rfl) (fun _ _ _ h => h) (Or.inl ⟨by rfl, ?_⟩) (by assumption) ?_
            rotate_left 1
            · (intro w' hSw; (try dsimp only at hSw); go_simp; try with_reducible rfl)
            try simp only [Act.put, List.setIfInBounds_toArray, List.set_cons_zero, List.set_cons_succ, List.getElem_toArray, List.getElem_cons_succ, List.getElem_cons_zero]
            refine wpAnyH_take (i := 2) (v := ?_) rfl (by kernel_rfl) (by kernel_rfl) (by kernel_rfl) (fun _ _ _ h => h) (Or.inl ⟨by rfl, ?_⟩) (by assumption) ?_
            rotate_left 1
            · (intro w' hSw; (try dsimp only at hSw); go_simp; try with_reducible rfl)
            try simp only [Act.put, List.setIfInBounds_toArray, List.set_cons_zero, List.set_cons_succ, List.getElem_toArray, List.getElem_cons_succ, List.getElem_cons_zero]
            refine wpAnyH_take (i := 3) (v := ?_) rfl (by kernel_rfl) (by kernel_rfl) (by kernel_rfl) (fun _ _ _ h => h) (Or.inl ⟨by rfl, ?_⟩) (by assumption) ?_
            rotate_left 1
            · (intro w' hSw; (try dsimp only at hSw); go_simp; try with_reducible rfl)
            try simp only [Act.put, List.setIfInBounds_toArray, List.set_cons_zero, List.set_cons_succ, List.getElem_toArray, List.getElem_cons_succ, List.getElem_cons_zero]
            refine wpAnyH_take (i := 4) (v := ?_) rfl (by kernel_rfl) (by kernel_rfl) (by kernel_rfl) (fun _ _ _ h => h) (Or.inl ⟨by rfl, ?_⟩) (by assumption) ?_
            rotate_left 1
            · (intro w' hSw; (try dsimp only at hSw); go_simp; try with_reducible rfl)
            try simp only [Act.put, List.setIfInBounds_toArray, List.set_cons_zero, List.set_cons_succ, List.getElem_toArray, List.getElem_cons_succ, List.getElem_cons_zero]
            refine wpAnyH_take (i := 5) (v := ?_) rfl (by kernel_rfl) (by kernel_rfl) (by kernel_rfl) (fun _ _ _ h => h) (Or.inl ⟨by rfl, ?_⟩) (by assumption) ?_
            rotate_left 1
            · (intro w' hSw; (try dsimp only at hSw); go_simp; try with_reducible rfl)
            try simp only [Act.put, List.setIfInBounds_toArray, List.set_cons_zero, List.set_cons_succ, List.getElem_toArray, List.getElem_cons_succ, List.getElem_cons_zero]
            refine wpAnyH_take (i := 6) (v := ?_) rfl (by kernel_rfl) (by kernel_rfl) (by kernel_rfl) (fun _ _ _ h => h) (Or.inl ⟨by rfl, ?_⟩) (by assumption) ?_
            rotate_left 1
            · (intro w' hSw; (try dsimp only at hSw); go_simp; try with_reducible rfl)
            try simp only [Act.put, List.setIfInBounds_toArray, List.set_cons_zero, List.set_cons_succ, List.getElem_toArray, List.getElem_cons_succ, List.getElem_cons_zero]
            refine wpAnyH_take (i := 7) (v := ?_) rfl (by kernel_rfl) (by kernel_rfl) (by kernel_rfl) (fun _ _ _ h => h) (Or.inl ⟨by rfl, ?_⟩) (by assumption) ?_
            rotate_left 1
            · (intro w' hSw; (try dsimp only at hSw); go_simp; try with_reducible rfl)
            try simp only [Act.put, List.setIfInBounds_toArray, List.set_cons_zero, List.set_cons_succ, List.getElem_toArray, List.getElem_cons_succ, List.getElem_cons_zero]
            refine wpAnyH_take (i := 8) (v := ?_) rfl (by kernel_rfl) (by kernel_rfl) (by kernel_rfl) (fun _ _ _ h => h) (Or.inl ⟨by rfl, ?_⟩) (by assumption) ?_
            rotate_left 1
            · (intro w' hSw; (try dsimp only at hSw); go_simp; try with_reducible rfl)
            try simp only [Act.put, List.setIfInBounds_toArray, List.set_cons_zero, List.set_cons_succ, List.getElem_toArray, List.getElem_cons_succ, List.getElem_cons_zero]
            refine wpAnyH_take (i := 9) (v := ?_) rfl (by kernel_rfl) (by kernel_rfl) (by kernel_rfl) (fun _ _ _ h => h) (Or.inl ⟨by rfl, ?_⟩) (by assumption) ?_
            rotate_left 1
            · (intro w' hSw; (try dsimp only at hSw); go_simp; try with_reducible rfl)
            try simp only [Act.put, List.setIfInBounds_toArray, List.set_cons_zero, List.set_cons_succ, List.getElem_toArray, List.getElem_cons_succ, List.getElem_cons_zero]
            refine wpAnyH_take (i := 10) (v := ?_) rfl (by kernel_rfl) (by kernel_rfl) (by kernel_rfl) (fun _ _ _ h => h) (Or.inl ⟨by rfl, ?_⟩) (by assumption) ?_
            rotate_left 1
            · (intro w' hSw; (try dsimp only at hSw); go_simp; try with_reducible rfl)
            try simp only [Act.put, List.setIfInBounds_toArray, List.set_cons_zero, List.set_cons_succ, List.getElem_toArray, List.getElem_cons_succ, List.getElem_cons_zero]
            refine wpAnyH_take (i := 11) (v := undef) rfl (by kernel_rfl) (by kernel_rfl) (by kernel_rfl) (fun _ _ _ h => h) (Or.inr ⟨by rfl, rfl⟩) (by assumption) ?_
            try simp only [Act.put, List.setIfInBounds_toArray, List.set_cons_zero, List.set_cons_succ, List.getElem_toArray, List.getElem_cons_succ, List.getElem_cons_zero]
            refine wpAnyH_take (i := 12) (v := undef) rfl (by kernel_rfl) (by kernel_rfl) (by kernel_rfl) (fun _ _ _ h => h) (Or.inr ⟨by rfl, rfl⟩) (by assumption) ?_
            try simp only [Act.put, List.setIfInBounds_toArray, List.set_cons_zero, List.set_cons_succ, List.getElem_toArray, List.getElem_cons_succ, List.getElem_cons_zero]
            refine wpAnyH_take (i := 13) (v := undef) rfl (by kernel_rfl) (by kernel_rfl) (by kernel_rfl) (fun _ _ _ h => h) (Or.inr ⟨by rfl, rfl⟩) (by assumption) ?_
            try simp only [Act.put, List.setIfInBounds_toArray, List.set_cons_zero, List.set_cons_succ, List.getElem_toArray, List.getElem_cons_succ, List.getElem_cons_zero]
            refine wpAnyH_take (i := 14) (v := ?_) rfl (by kernel_rfl) (by kernel_rfl) (by kernel_rfl) (fun _ _ _ h => h) (Or.inl ⟨by rfl, ?_⟩) (by assumption) ?_
            rotate_left 1
            · (intro w' hSw; (try dsimp only at hSw); go_simp; try with_reducible rfl)
            try simp only [Act.put, List.setIfInBounds_toArray, List.set_cons_zero, List.set_cons_succ, List.getElem_toArray, List.getElem_cons_succ, List.getElem_cons_zero]
            refine wpAnyH_take (i := 15) (v := ?_) rfl (by kernel_rfl) (by kernel_rfl) (by kernel_rfl) (fun _ _ _ h => h) (Or.inl ⟨by rfl, ?_⟩) (by assumption) ?_
            rotate_left 1
            · (intro w' hSw; (try dsimp only at hSw); go_simp; try with_reducible rfl)
            try simp only [Act.put, List.setIfInBounds_toArray, List.set_cons_zero, List.set_cons_succ, List.getElem_toArray, List.getElem_cons_succ, List.getElem_cons_zero]
            refine wpAnyH_take (i := 16) (v := ?_) rfl (by kernel_rfl) (by kernel_rfl) (by kernel_rfl) (fun _ _ _ h => h) (Or.inl ⟨by rfl, ?_⟩) (by assumption) ?_
            rotate_left 1
            · (intro w' hSw; (try dsimp only at hSw); go_simp; try with_reducible rfl)
            try simp only [Act.put, List.setIfInBounds_toArray, List.set_cons_zero, List.set_cons_succ, List.getElem_toArray, List.getElem_cons_succ, List.getElem_cons_zero]
            refine wpAnyH_take (i := 17) (v := ?_) rfl (by kernel_rfl) (by kernel_rfl) (by kernel_rfl) (fun _ _ _ h => h) (Or.inl ⟨by rfl, ?_⟩) (by assumption) ?_
            rotate_left 1
            · (intro w' hSw; (try dsimp only at hSw); go_simp; try with_reducible rfl)
            try simp only [Act.put, List.setIfInBounds_toArray, List.set_cons_zero, List.set_cons_succ, List.getElem_toArray, List.getElem_cons_succ, List.getElem_cons_zero]
            refine wpAnyH_take (i := 18) (v := ?_) rfl (by kernel_rfl) (by kernel_rfl) (by kernel_rfl) (fun _ _ _ h => h) (Or.inl ⟨by rfl, ?_⟩) (by assumption) ?_
            rotate_left 1
            · (intro w' hSw; (try dsimp only at hSw); go_simp; try with_reducible rfl)
            try simp only [Act.put, List.setIfInBounds_toArray, List.set_cons_zero, List.set_cons_succ, List.getElem_toArray, List.getElem_cons_succ, List.getElem_cons_zero]
            refine wpAnyH_take (i := 19) (v := ?_) rfl (by kernel_rfl) (by kernel_rfl) (by kernel_rfl) (fun _ _ _ h => h) (Or.inl ⟨by rfl, ?_⟩) (by assumption) ?_
            rotate_left 1
            · (intro w' hSw; (try dsimp only at hSw); go_simp; try with_reducible rfl)
            try simp only [Act.put, List.setIfInBounds_toArray, List.set_cons_zero, List.set_cons_succ, List.getElem_toArray, List.getElem_cons_succ, List.getElem_cons_zero]
            refine wpAnyH_take (i := 20) (v := ?_) rfl (by kernel_rfl) (by kernel_rfl) (by kernel_rfl) (fun _ _ _ h => h) (Or.inl ⟨by rfl, ?_⟩) (by assumption) ?_
            rotate_left 1
            · (intro w' hSw; (try dsimp only at hSw); go_simp; try with_reducible rfl)
            try simp only [Act.put, List.setIfInBounds_toArray, List.set_cons_zero, List.set_cons_succ, List.getElem_toArray, List.getElem_cons_succ, List.getElem_cons_zero]
            refine wpAnyH_take (i := 21) (v := ?_) rfl (by kernel_rfl) (by kernel_rfl) (by kernel_rfl) (fun _ _ _ h => h) (Or.inl ⟨by rfl, ?_⟩) (by assumption) ?_
            rotate_left 1
            · (intro w' hSw; (try dsimp only at hSw); go_simp; try with_reducible rfl)
            try simp only [Act.put, List.setIfInBounds_toArray, List.set_cons_zero, List.set_cons_succ, List.getElem_toArray, List.getElem_cons_succ, List.getElem_cons_zero]
            refine wpAnyH_take (i := 22) (v := ?_) rfl (by kernel_rfl) (by kernel_rfl) (by kernel_rfl) (fun _ _ _ h => h) (Or.inl ⟨by rfl, ?_⟩) (by assumption) ?_
            rotate_left 1
            · (intro w' hSw; (try dsimp only at hSw); go_simp; try with_reducible rfl)
            try simp only [Act.put, List.setIfInBounds_toArray, List.set_cons_zero, List.set_cons_succ, List.getElem_toArray, List.getElem_cons_succ, List.getElem_cons_zero]
            refine wpAnyH_take (i := 23) (v := ?_) rfl (by kernel_rfl) (by kernel_rfl) (by kernel_rfl) (fun _ _ _ h => h) (Or.inl ⟨by rfl, ?_⟩) (by assumption) ?_
            rotate_left 1
            · (intro w' hSw; (try dsimp only at hSw); go_simp; try with_reducible rfl)
            try simp only [Act.put, List.setIfInBounds_toArray, List.set_cons_zero, List.set_cons_succ, List.getElem_toArray, List.getElem_cons_succ, List.getElem_cons_zero]
            refine wpAnyH_take (i := 24) (v := ?_) rfl (by kernel_rfl) (by kernel_rfl) (by kernel_rfl) (fun _ _ _ h => h) (Or.inl ⟨by rfl, ?_⟩) (by assumption) ?_
            rotate_left 1
            · (intro w' hSw; (try dsimp only at hSw); go_simp; try with_reducible rfl)
            try simp only [Act.put, List.setIfInBounds_toArray, List.set_cons_zero, List.set_cons_succ, List.getElem_toArray, List.getElem_cons_succ, List.getElem_cons_zero]
            refine wpAnyH_take (i := 25) (v := ?_) rfl (by kernel_rfl) (by kernel_rfl) (by kernel_rfl) (fun _ _ _ h => h) (Or.inl ⟨by rfl, ?_⟩) (by assumption) ?_
            rotate_left 1
            · (intro w' hSw; (try dsimp only at hSw); go_simp; try with_reducible rfl)
            try simp only [Act.put, List.setIfInBounds_toArray, List.set_cons_zero, List.set_cons_succ, List.getElem_toArray, List.getElem_cons_succ, List.getElem_cons_zero]
            refine wpAnyH_take (i := 26) (v := ?_) rfl (by kernel_rfl) (by kernel_rfl) (by kernel_rfl) (fun _ _ _ h => h) (Or.inl ⟨by rfl, ?_⟩) (by assumption) ?_
            rotate_left 1
            · (intro w' hSw; (try dsimp only at hSw); go_simp; try with_reducible rfl)
            try simp only [Act.put, List.setIfInBounds_toArray, List.set_cons_zero, List.set_cons_succ, List.getElem_toArray, List.getElem_cons_succ, List.getElem_cons_zero]
            refine wpAnyH_take (i := 27) (v := ?_) rfl (by kernel_rfl) (by kernel_rfl) (by kernel_rfl) (fun _ _ _ h => h) (Or.inl ⟨by rfl, ?_⟩) (by assumption) ?_
            rotate_left 1
            · (intro w' hSw; (try dsimp only at hSw); go_simp; try with_reducible rfl)
            try simp only [Act.put, List.setIfInBounds_toArray, List.set_cons_zero, List.set_cons_succ, List.getElem_toArray, List.getElem_cons_succ, List.getElem_cons_zero]
            refine wpAnyH_take (i := 28) (v := ?_) rfl (by kernel_rfl) (by kernel_rfl) (by kernel_rfl) (fun _ _ _ h => h) (Or.inl ⟨by rfl, ?_⟩) (by assumption) ?_
            rotate_left 1
            · (intro w' hSw; (try dsimp only at hSw); go_simp; try with_reducible rfl)
            try simp only [Act.put, List.setIfInBounds_toArray, List.set_cons_zero, List.set_cons_succ, List.getElem_toArray, List.getElem_cons_succ, List.getElem_cons_zero]
            refine wpAnyH_take (i := 31) (v := ?_) rfl (by kernel_rfl) (by kernel_rfl) (by kernel_rfl) (fun _ _ _ h => h) (Or.inl ⟨by rfl, ?_⟩) (by assumption) ?_
            rotate_left 1
            · (intro w' hSw; (try dsimp only at hSw); go_simp; try with_reducible rfl)
            try simp only [Act.put, List.setIfInBounds_toArray, List.set_cons_zero, List.set_cons_succ, List.getElem_toArray, List.getElem_cons_succ, List.getElem_cons_zero]
            refine wpAnyH_take (i := 32) (v := ?_) rfl (by kernel_rfl) (by kernel_rfl) (by kernel_rfl) (fun _ _ _ h => h) (Or.inl ⟨by rfl, ?_⟩) (by assumption) ?_
            rotate_left 1
            · (intro w' hSw; (try dsimp only at hSw); go_simp; try with_reducible rfl)
            try simp only [Act.put, List.setIfInBounds_toArray, List.set_cons_zero, List.set_cons_succ, List.getElem_toArray, List.getElem_cons_succ, List.getElem_cons_zero]
            refine wpAnyH_ready (rs := [29]) (by kernel_rfl) (by simp) (AllReadyH.cons rfl (fun K hK => ?_) AllReadyH.nil)
            go_simp
            (refine (specFill_any _ _ _ _ _ _).mono ?_; rintro e w7 ⟨rfl, hb7⟩; rw [HFP.out]; (try simp only [bkV]); have hb7 := undrew hb7; have hS7 := HS.out _ hb7)
            refine hK.out _ _ (by assumption) (fun _ => ?_)
            try simp only [Act.put, List.setIfInBounds_toArray, List.set_cons_zero, List.set_cons_succ, List.getElem_toArray, List.getElem_cons_succ, List.getElem_cons_zero]
            refine wpAnyH_take (i := 30) (v := ?_) rfl (by kernel_rfl) (by kernel_rfl) (by kernel_rfl) (fun _ _ _ h => h) (Or.inl ⟨by rfl, ?_⟩) (by assumption) ?_
            rotate_left 1
            · (intro w' hSw; (try dsimp only at hSw); go_simp; try with_reducible rfl)
            try simp only [Act.put, List.setIfInBounds_toArray, List.set_cons_zero, List.set_cons_succ, List.getElem_toArray, List.getElem_cons_succ, List.getElem_cons_zero]
            refine wpAnyH_take (i := 33) (v := ?_) rfl (by kernel_rfl) (by kernel_rfl) (by kernel_rfl) (fun _ _ _ h => h) (Or.inl ⟨by rfl, ?_⟩) (by assumption) ?_
            rotate_left 1
            · (intro w' hSw; (try dsimp only at hSw); go_simp; try with_reducible rfl)
            try simp only [Act.put, List.setIfInBounds_toArray, List.set_cons_zero, List.set_cons_succ, List.getElem_toArray, List.getElem_cons_succ, List.getElem_cons_zero]
            refine wpAnyH_take (i := 34) (v := ?_) rfl (by kernel_rfl) (by kernel_rfl) (by kernel_rfl) (fun _ _ _ h => h) (Or.inl ⟨by rfl, ?_⟩) (by assumption) ?_
            rotate_left 1
            · (intro w' hSw; (try dsimp only at hSw); go_simp; try with_reducible rfl)
            try simp only [Act.put, List.setIfInBounds_toArray, List.set_cons_zero, List.set_cons_succ, List.getElem_toArray, List.getElem_cons_succ, List.getElem_cons_zero]
            refine wpAnyH_take (i := 35) (v := ?_) rfl (by kernel_rfl) (by kernel_rfl) (by kernel_rfl) (fun _ _ _ h => h) (Or.inl ⟨by rfl, ?_⟩) (by assumption) ?_
            rotate_left 1
            · (intro w' hSw; (try dsimp only at hSw); go_simp; try with_reducible rfl)
            try simp only [Act.put, List.setIfInBounds_toArray, List.set_cons_zero, List.set_cons_succ, List.getElem_toArray, List.getElem_cons_succ, List.getElem_cons_zero]
            refine wpAnyH_take (i := 36) (v := ?_) rfl (by kernel_rfl) (by kernel_rfl) (by kernel_rfl) (fun _ _ _ h => h) (Or.inl ⟨by rfl, ?_⟩) (by assumption) ?_
            rotate_left 1
            · (intro w' hSw; (try dsimp only at hSw); go_simp; try with_reducible rfl)
            try simp only [Act.put, List.setIfInBounds_toArray, List.set_cons_zero, List.set_cons_succ, List.getElem_toArray, List.getElem_cons_succ, List.getElem_cons_zero]
            refine wpAnyH_done (by kernel_rfl) ?_ _
            go_wp2
            go_ret
            exact ⟨rfl, below_step hbw hb7⟩
          · have eA : A = (m : Int) := HOW.out (by omega)
            subst eA
            have hdt : decide (lo < 1000000000 * n) = false := decide_eq_false hlt
            go_upto_region 16 with (fail)
            refine wp_region_held_drew (S := fun w' => w'.cell? ⟨b12, 2, none⟩ = some (.int .i64 lo) ∧ w'.cell? ⟨b8, 2, none⟩ = some (.slice (some ⟨bx, ox, none⟩) XP.length sc83) ∧ w'.cell? ⟨bx, ox + m * 4 + 2, none⟩ = some (.int .i64 (lp - 1000000000 * n)) ∧ w'.cell? ⟨b3, 2, none⟩ = some (.slice (some ⟨bp, op, none⟩) P.length c3) ∧ w'.cell? ⟨bp, op + m * 4, none⟩ = some (.int .i64 rp) ∧ w'.cell? ⟨bp, op + m * 4 + 1, none⟩ = some (.int .i64 up) ∧ w'.cell? ⟨bp, op + m * 4 + 2, none⟩ = some (.int .i64 lp0) ∧ w'.cell? ⟨bp, op + m * 4 + 3, none⟩ = some (.int .i64 tp)) (by kernel_rfl) (HS.out _ (Below.refl _ _).drew) (fun hS => ?_)
            refine wpAnyH_take (i := 0) (v := ?_) rfl (by kernel_rfl) (by kernel_rfl) (by kernel_rfl) (fun _ _ _ h => h) (Or.inl ⟨by rfl, ?_⟩) (by assumption) ?_
            rotate_left 1
            · (intro w' hSw; (try dsimp only at hSw); go_simp; try with_reducible rfl)
            try simp only [Act.put, List.setIfInBounds_toArray, List.set_cons_zero, List.set_cons_succ, List.getElem_toArray, List.getElem_cons_succ, List.getElem_cons_zero]
            refine wpAnyH_take (i := 1) (v := ?_) rfl (by kernel_rfl) (by kernel_rfl) (by kernel_rfl) (fun _ _ _ h => h) (Or.inl ⟨by rfl, ?_⟩) (by assumption) ?_
            rotate_left 1
            · (intro w' hSw; (try dsimp only at hSw); go_simp; try with_reducible rfl)
            try simp only [Act.put, List.setIfInBounds_toArray, List.set_cons_zero, List.set_cons_succ, List.getElem_toArray, List.getElem_cons_succ, List.getElem_cons_zero]
            refine wpAnyH_take (i := 2) (v := ?_) rfl (by kernel_rfl) (by kernel_rfl) (by kernel_rfl) (fun _ _ _ h => h) (Or.inl ⟨by rfl, ?_⟩) (by assumption) ?_
            rotate_left 1
            · (intro w' hSw; (try dsimp only at hSw); go_simp; try with_reducible rfl)
            try simp only [Act.put, List.setIfInBounds_toArray, List.set_cons_zero, List.set_cons_succ, List.getElem_toArray, List.getElem_cons_succ, List.getElem_cons_zero]
            refine wpAnyH_take (i := 3) (v := ?_) rfl (by kernel_rfl) (by kernel_rfl) (by kernel_rfl) (fun _ _ _ h => h) (Or.inl ⟨by rfl, ?_⟩) (by assumption) ?_
            rotate_left 1
            · (intro w' hSw; (try dsimp only at hSw); go_simp; try with_reducible rfl)
            try simp only [Act.put, List.setIfInBounds_toArray, List.set_cons_zero, List.set_cons_succ, List.getElem_toArray, List.getElem_cons_succ, List.getElem_cons_zero]
            refine wpAnyH_take (i := 4) (v := ?_) rfl (by kernel_rfl) (by kernel_rfl) (by kernel_rfl) (fun _ _ _ h => h) (Or.inl ⟨by rfl, ?_⟩) (by assumption) ?_
            rotate_left 1
            · (intro w' hSw; (try dsimp only at hSw); go_simp; try with_reducible rfl)
            try simp only [Act.put, List.setIfInBounds_toArray, List.set_cons_zero, List.set_cons_succ, List.getElem_toArray, List.getElem_cons_succ, List.getElem_cons_zero]
            refine wpAnyH_take (i := 5) (v := ?_) rfl (by kernel_rfl) (by kernel_rfl) (by kernel_rfl) (fun _ _ _ h => h) (Or.inl ⟨by rfl, ?_⟩) (by assumption) ?_
            rotate_left 1
            · (intro w' hSw; (try dsimp only at hSw); go_simp; try with_reducible rfl)
            try simp only [Act.put, List.setIfInBounds_toArray, List.set_cons_zero, List.set_cons_succ, List.getElem_toArray, List.getElem_cons_succ, List.getElem_cons_zero]
            refine wpAnyH_take (i := 6) (v := ?_) rfl (by kernel_rfl) (by kernel_rfl) (by kernel_rfl) (fun _ _ _ h => h) (Or.inl ⟨by rfl, ?_⟩) (by assumption) ?_
            rotate_left 1
            · (intro w' hSw; (try dsimp only at hSw); go_simp; try with_reducible rfl)
            try simp only [Act.put, List.setIfInBounds_toArray, List.set_cons_zero, List.set_cons_succ, List.getElem_toArray, List.getElem_cons_succ, List.getElem_cons_zero]
            refine wpAnyH_take (i := 7) (v := ?_) rfl (by kernel_rfl) (by kernel_rfl) (by kernel_rfl) (fun _ _ _ h => h) (Or.inl ⟨by rfl, ?_⟩) (by assumption) ?_
            rotate_left 1
            · (intro w' hSw; (try dsimp only at hSw); go_simp; try with_reducible rfl)
            try simp only [Act.put, List.setIfInBounds_toArray, List.set_cons_zero, List.set_cons_succ, List.getElem_toArray, List.getElem_cons_succ, List.getElem_cons_zero]
            refine wpAnyH_take (i := 8) (v := ?_) rfl (by kernel_rfl) (by kernel_rfl) (by kernel_rfl) (fun _ _ _ h => h) (Or.inl ⟨by rfl, ?_⟩) (by assumption) ?_
            rotate_left 1
            · (intro w' hSw; (try dsimp only at hSw); go_simp; try with_reducible rfl)
            try simp only [Act.put, List.setIfInBounds_toArray, List.set_cons_zero, List.set_cons_succ, List.getElem_toArray, List.getElem_cons_succ, List.getElem_cons_zero]
            refine wpAnyH_take (i := 9) (v := ?_) rfl (by kernel_rfl) (by kernel_rfl) (by kernel_rfl) (fun _ _ _ h => h) (Or.inl ⟨by rfl, ?_⟩) (by assumption) ?_
            rotate_left 1
            · (intro w' hSw; (try dsimp only at hSw); go_simp; try with_reducible rfl)
            try simp only [Act.put, List.setIfInBounds_toArray, List.set_cons_zero, List.set_cons_succ, List.getElem_toArray, List.getElem_cons_succ, List.getElem_cons_zero]
            refine wpAnyH_take (i := 10) (v := ?_) rfl (by kernel_rfl) (by kernel_rfl) (by kernel_rfl) (fun _ _ _ h => h) (Or.inl ⟨by rfl, ?_⟩) (by assumption) ?_
            rotate_left 1
            · (intro w' hSw; (try dsimp only at hSw); go_simp; try with_reducible rfl)
            try simp only [Act.put, List.setIfInBounds_toArray, List.set_cons_zero, List.set_cons_succ, List.getElem_toArray, List.getElem_cons_succ, List.getElem_cons_zero]
            refine wpAnyH_take (i := 11) (v := ?_) rfl (by kernel_rfl) (by kernel_rfl) (by kernel_rfl) (fun _ _ _ h => h) (Or.inl ⟨by rfl, ?_⟩) (by assumption) ?_
            rotate_left 1
            · (intro w' hSw; (try dsimp only at hSw); go_simp; try with_reducible rfl)
            try simp only [Act.put, List.setIfInBounds_toArray, List.set_cons_zero, List.set_cons_succ, List.getElem_toArray, List.getElem_cons_succ, List.getElem_cons_zero]
            refine wpAnyH_take (i := 12) (v := ?_) rfl (by kernel_rfl) (by kernel_rfl) (by kernel_rfl) (fun _ _ _ h => h) (Or.inl ⟨by rfl, ?_⟩) (by assumption) ?_
            rotate_left 1
            · (intro w' hSw; (try dsimp only at hSw); go_simp; try with_reducible rfl)
            try simp only [Act.put, List.setIfInBounds_toArray, List.set_cons_zero, List.set_cons_succ, List.getElem_toArray, List.getElem_cons_succ, List.getElem_cons_zero]
            refine wpAnyH_take (i := 13) (v := ?_) rfl (by kernel_rfl) (by kernel_rfl) (by kernel_rfl) (fun _ _ _ h => h) (Or.inl ⟨by rfl, ?_⟩) (by assumption) ?_
            rotate_left 1
            · (intro w' hSw; (try dsimp only at hSw); go_simp; try with_reducible rfl)
            try simp only [Act.put, List.setIfInBounds_toArray, List.set_cons_zero, List.set_cons_succ, List.getElem_toArray, List.getElem_cons_succ, List.getElem_cons_zero]
            refine wpAnyH_take (i := 14) (v := ?_) rfl (by kernel_rfl) (by kernel_rfl) (by kernel_rfl) (fun _ _ _ h => h) (Or.inl ⟨by rfl, ?_⟩) (by assumption) ?_
            rotate_left 1
            · (intro w' hSw; (try dsimp only at hSw); go_simp; try with_reducible rfl)
            try simp only [Act.put, List.setIfInBounds_toArray, List.set_cons_zero, List.set_cons_succ, List.getElem_toArray, List.getElem_cons_succ, List.getElem_cons_zero]
            refine wpAnyH_take (i := 15) (v := ?_) rfl (by kernel_rfl) (by kernel_rfl) (by kernel_rfl) (fun _ _ _ h => h) (Or.inl ⟨by rfl, ?_⟩) (by assumption) ?_
            rotate_left 1
            · (intro w' hSw; (try dsimp only at hSw); go_simp; try with_reducible rfl)
            try simp only [Act.put, List.setIfInBounds_toArray, List.set_cons_zero, List.set_cons_succ, List.getElem_toArray, List.getElem_cons_succ, List.getElem_cons_zero]
            refine wpAnyH_take (i := 16) (v := ?_) rfl (by kernel_rfl) (by kernel_rfl) (by kernel_rfl) (fun _ _ _ h => h) (Or.inl ⟨by rfl, ?_⟩) (by assumption) ?_
            rotate_left 1
            · (intro w' hSw; (try dsimp only at hSw); go_simp; try with_reducible rfl)
            try simp only [Act.put, List.setIfInBounds_toArray, List.set_cons_zero, List.set_cons_succ, List.getElem_toArray, List.getElem_cons_succ, List.getElem_cons_zero]
            refine wpAnyH_take (i := 17) (v := ?_) rfl (by kernel_rfl) (by kernel_rfl) (by kernel_rfl) (fun _ _ _ h => h) (Or.inl ⟨by rfl, ?_⟩) (by assumption) ?_
            rotate_left 1
            · (intro w' hSw; (try dsimp only at hSw); go_simp; try with_reducible rfl)
            try simp only [Act.put, List.setIfInBounds_toArray, List.set_cons_zero, List.set_cons_succ, List.getElem_toArray, List.getElem_cons_succ, List.getElem_cons_zero]
            refine wpAnyH_take (i := 18) (v := ?_) rfl (by kernel_rfl) (by kernel_rfl) (by kernel_rfl) (fun _ _ _ h => h) (Or.inl ⟨by rfl, ?_⟩) (by assumption) ?_
            rotate_left 1
            · (intro w' hSw; (try dsimp only at hSw); go_simp; try with_reducible rfl)
            try simp only [Act.put, List.setIfInBounds_toArray, List.set_cons_zero, List.set_cons_succ, List.getElem_toArray, List.getElem_cons_succ, List.getElem_cons_zero]
            refine wpAnyH_take (i := 19) (v := ?_) rfl (by kernel_rfl) (by kernel_rfl) (by kernel_rfl) (fun _ _ _ h => h) (Or.inl ⟨by rfl, ?_⟩) (by assumption) ?_
            rotate_left 1
            · (intro w' hSw; (try dsimp only at hSw); go_simp; try with_reducible rfl)
            try simp only [Act.put, List.setIfInBounds_toArray, List.set_cons_zero, List.set_cons_succ, List.getElem_toArray, List.getElem_cons_succ, List.getElem_cons_zero]
            refine wpAnyH_take (i := 20) (v := ?_) rfl (by kernel_rfl) (by kernel_rfl) (by kernel_rfl) (fun _ _ _ h => h) (Or.inl ⟨by rfl, ?_⟩) (by assumption) ?_
            rotate_left 1
            · (intro w' hSw; (try dsimp only at hSw); go_simp; try with_reducible rfl)
            try simp only [Act.put, List.setIfInBounds_toArray, List.set_cons_zero, List.set_cons_succ, List.getElem_toArray, List.getElem_cons_succ, List.getElem_cons_zero]
            refine wpAnyH_take (i := 21) (v := ?_) rfl (by kernel_rfl) (by kernel_rfl) (by kernel_rfl) (fun _ _ _ h => h) (Or.inl ⟨by rfl, ?_⟩) (by assumption) ?_
            rotate_left 1
            · (intro w' hSw; (try dsimp only at hSw); go_simp; try with_reducible rfl)
            try simp only [Act.put, List.setIfInBounds_toArray, List.set_cons_zero, List.set_cons_succ, List.getElem_toArray, List.getElem_cons_succ, List.getElem_cons_zero]
            refine wpAnyH_take (i := 22) (v := ?_) rfl (by kernel_rfl) (by kernel_rfl) (by kernel_rfl) (fun _ _ _ h => h) (Or.inl ⟨by rfl, ?_⟩) (by assumption) ?_
            rotate_left 1
            · (intro w' hSw; (try dsimp only at hSw); go_simp; try with_reducible rfl)
            try simp only [Act.put, List.setIfInBounds_toArray, List.set_cons_zero, List.set_cons_succ, List.getElem_toArray, List.getElem_cons_succ, List.getElem_cons_zero]
            refine wpAnyH_take (i := 23) (v := ?_) rfl (by kernel_rfl) (by kernel_rfl) (by kernel_rfl) (fun _ _ _ h => h) (Or.inl ⟨by rfl, ?_⟩) (by assumption) ?_
            rotate_left 1
            · (intro w' hSw; (try dsimp only at hSw); go_simp; try with_reducible rfl)
            try simp only [Act.put, List.setIfInBounds_toArray, List.set_cons_zero, List.set_cons_succ, List.getElem_toArray, List.getElem_cons_succ, List.getElem_cons_zero]
            refine wpAnyH_take (i := 24) (v := ?_) rfl (by kernel_rfl) (by kernel_rfl) (by kernel_rfl) (fun _ _ _ h => h) (Or.inl ⟨by rfl, ?_⟩) (by assumption) ?_
            rotate_left 1
            · (intro w' hSw; (try dsimp only at hSw); go_simp; try with_reducible rfl)
            try simp only [Act.put, List.setIfInBounds_toArray, List.set_cons_zero, List.set_cons_succ, List.getElem_toArray, List.getElem_cons_succ, List.getElem_cons_zero]
            refine wpAnyH_take (i := 25) (v := ?_) rfl (by kernel_rfl) (by kernel_rfl) (by kernel_rfl) (fun _ _ _ h => h) (Or.inl ⟨by rfl, ?_⟩) (by assumption) ?_
            rotate_left 1
            · (intro w' hSw; (try dsimp only at hSw); go_simp; try with_reducible rfl)
            try simp only [Act.put, List.setIfInBounds_toArray, List.set_cons_zero, List.set_cons_succ, List.getElem_toArray, List.getElem_cons_succ, List.getElem_cons_zero]
            refine wpAnyH_take (i := 26) (v := ?_) rfl (by kernel_rfl) (by kernel_rfl) (by kernel_rfl) (fun _ _ _ h => h) (Or.inl ⟨by rfl, ?_⟩) (by assumption) ?_
            rotate_left 1
            · (intro w' hSw; (try dsimp only at hSw); go_simp; try with_reducible rfl)
            try simp only [Act.put, List.setIfInBounds_toArray, List.set_cons_zero, List.set_cons_succ, List.getElem_toArray, List.getElem_cons_succ, List.getElem_cons_zero]
            refine wpAnyH_take (i := 27) (v := ?_) rfl (by kernel_rfl) (by kernel_rfl) (by kernel_rfl) (fun _ _ _ h => h) (Or.inl ⟨by rfl, ?_⟩) (by assumption) ?_
            rotate_left 1
            · (intro w' hSw; (try dsimp only at hSw); go_simp; try with_reducible rfl)
            try simp only [Act.put, List.setIfInBounds_toArray, List.set_cons_zero, List.set_cons_succ, List.getElem_toArray, List.getElem_cons_succ, List.getElem_cons_zero]
            refine wpAnyH_take (i := 28) (v := ?_) rfl (by kernel_rfl) (by kernel_rfl) (by kernel_rfl) (fun _ _ _ h => h) (Or.inl ⟨by rfl, ?_⟩) (by assumption) ?_
            rotate_left 1
            · (intro w' hSw; (try dsimp only at hSw); go_simp; try with_reducible rfl)
            try simp only [Act.put, List.setIfInBounds_toArray, List.set_cons_zero, List.set_cons_succ, List.getElem_toArray, List.getElem_cons_succ, List.getElem_cons_zero]
            refine wpAnyH_take (i := 31) (v := ?_) rfl (by kernel_rfl) (by kernel_rfl) (by kernel_rfl) (fun _ _ _ h => h) (Or.inl ⟨by rfl, ?_⟩) (by assumption) ?_
            rotate_left 1
            · (intro w' hSw; (try dsimp only at hSw); go_simp; try with_reducible rfl)
            try simp only [Act.put, List.setIfInBounds_toArray, List.set_cons_zero, List.set_cons_succ, List.getElem_toArray, List.getElem_cons_succ, List.getElem_cons_zero]
            refine wpAnyH_take (i := 32) (v := ?_) rfl (by kernel_rfl) (by kernel_rfl) (by kernel_rfl) (fun _ _ _ h => h) (Or.inl ⟨by rfl, ?_⟩) (by assumption) ?_
            rotate_left 1
            · (intro w' hSw; (try dsimp only at hSw); go_simp; try with_reducible rfl)
            try simp only [Act.put, List.setIfInBounds_toArray, List.set_cons_zero, List.set_cons_succ, List.getElem_toArray, List.getElem_cons_succ, List.getElem_cons_zero]
            refine wpAnyH_ready (rs := [29]) (by kernel_rfl) (by simp) (AllReadyH.cons rfl (fun K hK => ?_) AllReadyH.nil)
            go_simp
            (refine (specFill_any _ _ _ _ _ _).mono ?_; rintro e w7 ⟨rfl, hb7⟩; rw [HFP.out]; (try simp only [bkV]); have hb7 := undrew hb7; have hS7 := HS.out _ hb7)
            refine hK.out _ _ (by assumption) (fun _ => ?_)
            try simp only [Act.put, List.setIfInBounds_toArray, List.set_cons_zero, List.set_cons_succ, List.getElem_toArray, List.getElem_cons_succ, List.getElem_cons_zero]
            refine wpAnyH_take (i := 30) (v := ?_) rfl (by kernel_rfl) (by kernel_rfl) (by kernel_rfl) (fun _ _ _ h => h) (Or.inl ⟨by rfl, ?_⟩) (by assumption) ?_
            rotate_left 1
            · (intro w' hSw; (try dsimp only at hSw); go_simp; try with_reducible rfl)
            try simp only [Act.put, List.setIfInBounds_toArray, List.set_cons_zero, List.set_cons_succ, List.getElem_toArray, List.getElem_cons_succ, List.getElem_cons_zero]
            refine wpAnyH_take (i := 33) (v := ?_) rfl (by kernel_rfl) (by kernel_rfl) (by kernel_rfl) (fun _ _ _ h => h) (Or.inl ⟨by rfl, ?_⟩) (by assumption) ?_
            rotate_left 1
            · (intro w' hSw; (try dsimp only at hSw); go_simp; try with_reducible rfl)
            try simp only [Act.put, List.setIfInBounds_toArray, List.set_cons_zero, List.set_cons_succ, List.getElem_toArray, List.getElem_cons_succ, List.getElem_cons_zero]
            refine wpAnyH_take (i := 34) (v := ?_) rfl (by kernel_rfl) (by kernel_rfl) (by kernel_rfl) (fun _ _ _ h => h) (Or.inl ⟨by rfl, ?_⟩) (by assumption) ?_
            rotate_left 1
            · (intro w' hSw; (try dsimp only at hSw); go_simp; try with_reducible rfl)
            try simp only [Act.put, List.setIfInBounds_toArray, List.set_cons_zero, List.set_cons_succ, List.getElem_toArray, List.getElem_cons_succ, List.getElem_cons_zero]
            refine wpAnyH_take (i := 35) (v := ?_) rfl (by kernel_rfl) (by kernel_rfl) (by kernel_rfl) (fun _ _ _ h => h) (Or.inl ⟨by rfl, ?_⟩) (by assumption) ?_
            rotate_left 1
            · (intro w' hSw; (try dsimp only at hSw); go_simp; try with_reducible rfl)
            try simp only [Act.put, List.setIfInBounds_toArray, List.set_cons_zero, List.set_cons_succ, List.getElem_toArray, List.getElem_cons_succ, List.getElem_cons_zero]
            refine wpAnyH_take (i := 36) (v := ?_) rfl (by kernel_rfl) (by kernel_rfl) (by kernel_rfl) (fun _ _ _ h => h) (Or.inl ⟨by rfl, ?_⟩) (by assumption) ?_
            rotate_left 1
            · (intro w' hSw; (try dsimp only at hSw); go_simp; try with_reducible rfl)
            try simp only [Act.put, List.setIfInBounds_toArray, List.set_cons_zero, List.set_cons_succ, List.getElem_toArray, List.getElem_cons_succ, List.getElem_cons_zero]
            refine wpAnyH_done (by kernel_rfl) ?_ _
            go_wp2
            go_ret
            exact ⟨rfl, below_step hbw hb7⟩
  · have hbig : (4096 : Int) < (len0 : Int) := by omega
    go_enter Try.func3, Try.ntmps3
    go_wp2
    go_ret
    exact ⟨rfl, Below.refl _ _⟩

/-! ### THE ROW's STEP: WRITTEN OUT: LEAVE IT -/
set_option maxRecDepth 100000 in
theorem lifted (os : Os) (started : os.Started) (H : Type) (enc : TypeId × Value → H) :
    ReturnsInHanded {} Try.checked os 3 .any (Rows.fnAskedSpec.pre6 enc Try.prog Try.f3 Rows.fnAskedRow.domain false) (Rows.fnAskedSpec.post enc Try.prog Try.f3 false true false false) := by
  refine returnsInHanded_of_change (C := Try.checked) own started (by kernel_rfl) Try.func3
    (ChangeSpec.witness6 (enc := enc) (C := Try.checked) false ⟨#[], #[.slice none 0 0], []⟩ 8 (by kernel_rfl) (by kernel_rfl) (by kernel_rfl) (by kernel_rfl)) ?_
  intro W base args ds gs before hval0 hW hcnd _
  have hval : ∀ (j : Nat) t v, Try.f3.params[j]? = some t → args[j]? = some v → Value.okWide Try.prog W .any base t v := hval0
  have hW' := hW
  obtain ⟨p, q, hA0, hV, rfl, hfz, hnd⟩ := hW
  have hA : DataW.TrodAll enc Try.prog W 0 (fun _ => true) true Try.f3.params.toList args.toList ds p := hA0
  rw [Try.params3] at hA hval
  obtain ⟨v0, vs0, d0, ds0, p0, q0, hargs, rfl, rfl, h0, r0⟩ := trodAll_cons hA
  obtain ⟨rfl, rfl, rfl⟩ := trodAll_nil r0
  obtain rfl : args = #[v0] := by cases args; simp_all
  obtain ⟨rfl, rfl⟩ := trodVars_none hV
  obtain ⟨a0, len0, cap0, rfl⟩ := okWide_slice Try.underlying22 (hval 0 22 v0 rfl rfl)
  have k0 := h0
  have lt0 : ∀ x ∈ p0, x.block < W.heap.size := by obtain ⟨m, hm⟩ := k0; exact DataW.trod_lt m _ _ _ hm
  obtain ⟨z0, w0⟩ : ∃ zs, IsRow .u8 W a0 len0 cap0 zs := by
    obtain ⟨fuel, hf⟩ := h0
    rcases open_ints Try.underlying22 Try.underlying5 (by kernel_rfl) hf with ⟨hcs, _⟩ | ⟨x, l, c, zs, hcs, _, hl, hm, hz, _, hcell, hwz⟩
    · simp [Value.cells] at hcs
      obtain ⟨rfl, rfl, rfl⟩ := hcs
      exact ⟨[], .inl ⟨rfl, rfl, rfl, rfl⟩⟩
    · simp [Value.cells] at hcs
      obtain ⟨rfl, rfl, rfl⟩ := hcs
      exact ⟨zs, .inr ⟨_, rfl, hl, hm, by simpa using hz, hcell, hwz⟩⟩
  clear hA0 hval0
  refine (walk a0 len0 cap0 z0 W w0).mono fun e W' ⟨he, bel⟩ => ?_
  subst he
  exact ⟨_, rfl, _, _, _, [], _, [], hW', trodAll_mk1 (shut_bool Try.underlying4 _), (trodAll_cons_mk (Below.trod laidOut (by kernel_rfl) (of_decide_eq_true (by kernel_rfl)) k0 bel lt0) trodAll_mk0), rfl, bel.frame _, fun h => by cases h⟩

theorem over : Rows.fnAskedRow.holds Try.pinned (OpenSpec.ofChange Rows.fnAskedSpec) :=
  OpenClaim.holds_of_wide 3 Try.f3 rfl rfl rfl rfl rfl rfl rfl ⟨rfl, rfl, rfl, rfl, rfl⟩ rfl rfl rfl rfl rfl (by kernel_rfl) Try.func3 (by kernel_rfl)
    (of_decide_eq_true (by kernel_rfl)) (by unfold Func.isWrapper; first | (rw [if_pos (by decide +kernel)]; kernel_rfl) | (rw [if_neg (by decide +kernel)]; exact ⟨rfl, rfl⟩))
    (fun os started H enc _ => lifted os started H enc)

/-- ████ THE STATEMENT ████ -/
theorem proved : Rows.FnAskedSaid := over
#print axioms proved
end Go.Proofs.Ytacahpmcmfmgkad.fnAsked
namespace Go.Proofs.Ytacahpmcmfmgkad
theorem fnAsked_holds : Rows.FnAskedSaid := fnAsked.proved
#print axioms fnAsked_holds
end Go.Proofs.Ytacahpmcmfmgkad
