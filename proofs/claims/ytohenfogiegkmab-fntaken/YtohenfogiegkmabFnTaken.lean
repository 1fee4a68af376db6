/- Proved: whatever the bytes, the law FnTaken returns true (at the bucket, the time and the size that the model draws of them impl.Take answers as spec's does, and of a full bucket no more is taken in twenty steps than its burst and what its rate brought), and the bytes read as before; no condition. -/
import Derived.Test.YtohenfogiegkmabRows
import Derived.WalkKit
import Derived.ProofKit
import Derived.OpenShut
import Derived.ShutString
import Derived.ChangeOld
import Derived.Below
import Derived.Test.YtohenfogiegkmabDraw4d
import Derived.Test.YtohenfogiegkmabImplBuck
import Derived.Test.YtohenfogiegkmabDrawLevel
import Derived.Test.YtohenfogiegkmabPush2
import Derived.Test.YtohenfogiegkmabTimes
import Derived.Deep.DeepCutAuto
namespace Go.Proofs.Ytohenfogiegkmab.fnTaken
open Go.ChangeShapes Go.WideShapes Go.ChangeAt Go.RowKit
open Go.ChangeMaps (open_string shut_string)
set_option linter.unusedVariables false

theorem own : ownKnob Try.prog.godebug = none := by kernel_rfl
theorem laidOut : laidOutB Try.prog = true := by kernel_rfl

/-- WHAT THE WALK IS TOLD OF A SLICE OF INTEGERS THAT CAME IN: it is nil; or it leads to a row of 'cap' cells, the numbers 'zs' (the first 'len' are its elements, the rest its spare room), each fitting its kind. -/
def IsRow (k : IntKind) (w : World) (a : Option Addr) (len cap : Nat) (zs : List Int) : Prop :=
  (a = none ∧ len = 0 ∧ cap = 0 ∧ zs = []) ∨
  ∃ x, a = some x ∧ len ≤ cap ∧ cap ≤ maxLen ∧ zs.length = cap ∧ (∀ i, i < zs.length → w.cell? (x.add i) = some (.int k (zs.getD i 0))) ∧ ∀ n ∈ zs, (Lit.int k n).wf = true

set_option linter.unusedSimpArgs false
set_option maxRecDepth 100000
theorem row_of {w : World} {a : Option Addr} {len cap : Nat} {zs : List Int} (h : IsRow .u8 w a len cap zs) : Row w.heap.size a len w := by
  intro i hi
  rcases h with ⟨rfl, rfl, rfl, rfl⟩ | ⟨x, rfl, hl, hm, hz, hcell, hwz⟩
  · omega
  · obtain ⟨b, off, spot⟩ := x
    have hspot : spot = none := by simpa [Addr.add] using World.cell?_spot (hcell 0 (by omega))
    subst hspot
    have hc := hcell i (by omega)
    have hc' : w.cell? ⟨b, off + i, none⟩ = some (.int .u8 (zs.getD i 0)) := by
      by_cases h0 : i = 0
      · subst h0; simpa [Addr.add] using hc
      · simpa [Addr.add, h0] using hc
    have hlt : i < zs.length := by omega
    have hm : zs.getD i 0 ∈ zs := by simp [List.getD, List.getElem?_eq_getElem hlt]
    obtain ⟨z0, z1⟩ := bounds_u8 (hwz _ hm)
    exact ⟨b, off, zs.getD i 0, rfl, World.block_lt_of_cell? w _ hc', hc', z0, z1⟩
theorem nil_of {w : World} {a : Option Addr} {len cap : Nat} {zs : List Int} (h : IsRow .u8 w a len cap zs) : a = none → len = 0 ∧ cap = 0 := by
  rintro rfl
  rcases h with ⟨_, h1, h2, _⟩ | ⟨x, h, _⟩
  · exact ⟨h1, h2⟩
  · cases h
theorem fill_ok {r u l t now : Int} (hb : bokB r u l t = true) (hn : timeB now = true) : fillOf r u l t now = (r, u, fillL r u l t now, fillT t now) := if_pos (by rw [hb, hn]; rfl)
theorem fill_bok {r u l t now : Int} (hb : bokB r u l t = true) (hn : timeB now = true) : bokB r u (fillL r u l t now) (fillT t now) = true ∧ l ≤ fillL r u l t now := by
  obtain ⟨nr, nu, nl, nt⟩ := bok_num hb
  have n2 := tim_num hn
  have key : 0 ≤ fillL r u l t now ∧ fillL r u l t now ≤ 1000000000 * u ∧ l ≤ fillL r u l t now ∧ 0 ≤ fillT t now ∧ fillT t now ≤ 1000000000000000 := by
    unfold fillL fillT
    by_cases h : now ≤ t
    · rw [if_pos h, if_pos h]; omega
    · rw [if_neg h, if_neg h]
      have hp := Int.mul_nonneg nr.1 (show 0 ≤ now - t by omega)
      generalize r * (now - t) = X at *
      omega
  obtain ⟨h0, h1, h2, h3, h4⟩ := key
  unfold bokB at hb ⊢
  rw [Bool.and_eq_true, Bool.and_eq_true, Bool.and_eq_true] at hb ⊢
  refine ⟨⟨⟨⟨hb.1.1.1, hb.1.1.2⟩, ?_⟩, ?_⟩, h2⟩
  · unfold lvlB; rw [decide_eq_true h0, decide_eq_true h1]; rfl
  · unfold timeB; rw [decide_eq_true h3, decide_eq_true h4]; rfl
theorem bokIs {r u l t : Int} {f : Bool} (h : bokB r u l t = f) (w : World) : Calls Try.prog 33 #[.agg #[.int .i64 r, .int .i64 u, .int .i64 l, .int .i64 t]] w fun e w' => e = .returned (.bool f) ∧ Below w.heap.size w w' := by
  subst h
  exact implBucketOk_any r u l t w
/-- What is taken: nothing of the zero bucket; what is left is right. -/
theorem take_zero {r u l t now n : Int} (h : takeOf r u l t now n = (0, 0, 0, 0)) : takeF r u l t now n = false := by
  unfold takeOf at h
  split at h
  · rename_i hk
    have hk' := hk
    unfold takeOk at hk'
    rw [Bool.and_eq_true, Bool.and_eq_true] at hk'
    obtain ⟨⟨h1, h2⟩, h3⟩ := hk'
    have n3 := seg_num h3
    have hf := bok_num (fill_bok h1 h2).1
    injection h with e1 h
    injection h with e2 h
    subst e2
    unfold takeF
    rw [hk, decide_eq_false (by omega)]
    rfl
  · rename_i hk
    unfold takeF
    rw [Bool.eq_false_iff.2 hk]
    rfl
theorem take_bok {r u l t now n xr xu xl xt : Int} (h : takeOf r u l t now n = (xr, xu, xl, xt)) (hz : ¬ (xr = 0 ∧ xu = 0 ∧ xl = 0 ∧ xt = 0)) : bokB xr xu xl xt = true := by
  unfold takeOf at h
  split at h
  · rename_i hk
    unfold takeOk at hk
    rw [Bool.and_eq_true, Bool.and_eq_true] at hk
    obtain ⟨⟨h1, h2⟩, h3⟩ := hk
    have n3 := seg_num h3
    have hf := bok_num (fill_bok h1 h2).1
    injection h with e1 h
    injection h with e2 h
    injection h with e3 e4
    subst e1 e2 e3 e4
    have hb := (fill_bok h1 h2).1
    unfold bokB at hb ⊢
    rw [Bool.and_eq_true, Bool.and_eq_true, Bool.and_eq_true] at hb ⊢
    refine ⟨⟨hb.1.1, ?_⟩, hb.2⟩
    unfold lvlB
    split
    · rw [decide_eq_true (by omega), decide_eq_true (by omega)]; rfl
    · rw [decide_eq_true (by omega), decide_eq_true (by omega)]; rfl
  · injection h with e1 h
    injection h with e2 h
    injection h with e3 e4
    exact absurd ⟨e1.symm, e2.symm, e3.symm, e4.symm⟩ hz
/-- While it is taken from: no more than the burst and what the rate brought. -/
structure TkInv (r u : Int) (j : Nat) (a s l : Int) : Prop where
  a0 : 0 ≤ a
  a1 : a ≤ 3000000 * (j : Int)
  s0 : 0 ≤ s
  s1 : s ≤ 1500 * (j : Int)
  l0 : 0 ≤ l
  l1 : l ≤ 1000000000 * u
  inv : 1000000000 * s + l ≤ 1000000000 * u + r * a
theorem tk_bok {r u : Int} {j : Nat} {a s l : Int} (h : TkInv r u j a s l) (hj : j ≤ 20) (hr : 0 ≤ r ∧ r < 5000000) (hu : 1500 ≤ u ∧ u < 7500) : bokB r u l a = true := by
  have h1 := h.a0
  have h2 := h.a1
  have h3 := h.l0
  have h4 := h.l1
  unfold bokB rateB winB lvlB timeB
  rw [decide_eq_true (show 0 ≤ r by omega), decide_eq_true (show r ≤ 1000000000000 by omega), decide_eq_true (show 0 ≤ u by omega), decide_eq_true (show u ≤ 1000000000 by omega), decide_eq_true h3, decide_eq_true h4, decide_eq_true h1, decide_eq_true (show a ≤ 1000000000000000 by omega)]
  rfl
theorem tk_step {r u : Int} {j : Nat} {a s l p k : Int} (h : TkInv r u j a s l) (hj : j < 20) (hr : 0 ≤ r ∧ r < 5000000) (hu : 1500 ≤ u ∧ u < 7500) (hp : 0 ≤ p ∧ p < 3000000) (hk : 1 ≤ k ∧ k ≤ 1500) :
    ∃ l', takeOf r u l a (a + p) k = (r, u, l', a + p) ∧ bytesOf r (a + p) = r * (a + p) / 1000000000 ∧ 0 ≤ r * (a + p) ∧ r * (a + p) ≤ 400000000000000 ∧
      ((takeF r u l a (a + p) k = true ∧ TkInv r u (j + 1) (a + p) (s + k) l' ∧ s + k ≤ u + r * (a + p) / 1000000000) ∨ (takeF r u l a (a + p) k = false ∧ TkInv r u (j + 1) (a + p) s l' ∧ s ≤ u + r * (a + p) / 1000000000)) := by
  have h1 := h.a0
  have h2 := h.a1
  have h3 := h.l0
  have h4 := h.l1
  have h5 := h.s0
  have h6 := h.s1
  have h7 := h.inv
  have hb := tk_bok h (by omega) hr hu
  have ht : timeB (a + p) = true := by unfold timeB; rw [decide_eq_true (by omega), decide_eq_true (by omega)]; rfl
  have hg : segB k = true := by unfold segB; rw [decide_eq_true hk.1, decide_eq_true hk.2]; rfl
  have hok : takeOk r u l a (a + p) k = true := by unfold takeOk; rw [hb, ht, hg]; rfl
  have hT : fillT a (a + p) = a + p := by unfold fillT; split <;> omega
  have hm : r * (a + p) = r * a + r * p := Int.mul_add ..
  have hp0 := Int.mul_nonneg hr.1 hp.1
  have hp1 : r * (a + p) ≤ 5000000 * 60000000 := Int.mul_le_mul (by omega) (by omega) (by omega) (by omega)
  have ha0 := Int.mul_nonneg hr.1 h1
  have hF : 0 ≤ fillL r u l a (a + p) ∧ fillL r u l a (a + p) ≤ 1000000000 * u ∧ 1000000000 * s + fillL r u l a (a + p) ≤ 1000000000 * u + r * (a + p) := by
    unfold fillL
    split
    · rename_i hc
      obtain rfl : p = 0 := by omega
      rw [Int.add_zero]
      omega
    · rw [show a + p - a = p by omega, hm]
      generalize r * p = Y at *
      generalize r * a = X at *
      omega
  have hby : bytesOf r (a + p) = r * (a + p) / 1000000000 := bytes_in (by omega) (by omega) (by omega) (by omega)
  unfold takeOf takeF
  rw [if_pos hok, hok, hT, hby, Bool.true_and]
  generalize fillL r u l a (a + p) = F at *
  generalize hX : r * (a + p) = X at *
  refine ⟨_, rfl, rfl, by omega, by omega, ?_⟩
  by_cases hc : 1000000000 * k ≤ F
  · rw [decide_eq_true hc, if_pos hc]
    exact .inl ⟨rfl, ⟨by omega, by omega, by omega, by omega, by omega, by omega, by rw [hX]; omega⟩, by omega⟩
  · rw [decide_eq_false hc, if_neg hc]
    exact .inr ⟨rfl, ⟨by omega, by omega, by omega, by omega, by omega, by omega, by rw [hX]; omega⟩, by omega⟩
theorem full_is {r u : Int} (hr : 0 ≤ r ∧ r < 5000000) (hu : 1500 ≤ u ∧ u < 7500) : fullOf r u 0 = (r, u, 1000000000 * u, 0) ∧ fullOk r u 0 = true := by
  have hk : fullOk r u 0 = true := by
    unfold fullOk rateB winB timeB
    rw [decide_eq_true (show 0 ≤ r by omega), decide_eq_true (show r ≤ 1000000000000 by omega), decide_eq_true (show 0 ≤ u by omega), decide_eq_true (show u ≤ 1000000000 by omega)]
    rfl
  exact ⟨if_pos hk, hk⟩

/-! ### STEP 1: THE WALK: the Go text returns true, AND WRITES NOTHING THAT WAS THERE: 'Below w.heap.size w w'' (Derived/Below.lean: '.refl', '.alloc', '.drew', '.setCell' at a new block, '.trans'). Open each 'IsRow' by 'rcases' AHEAD of 'go_enter'; part every test ahead of the walk. -/
set_option maxHeartbeats 16000000 in
theorem walk (a0 : Option Addr) (len0 cap0 : Nat) (z0 : List Int) (w : World) (w0 : IsRow .u8 w a0 len0 cap0 z0) :
    Calls Try.prog 7 #[.slice a0 len0 cap0] w fun e w' => e = .returned (.bool true) ∧ Below w.heap.size w w' := by
  have row := row_of w0
  have hnil : Hid (a0 = none → len0 = 0 ∧ cap0 = 0) := nil_of w0
  by_cases hs : len0 ≤ 4096
  · go_enter Try.func7, Try.ntmps7
    go_upto_region 4 with (first
      | (go_at_call 28; refine (drawTake_any cap0 hs row (Nat.le_refl _)).mono ?_; rintro e w1 ⟨r, u, l, t, now, n, rfl, hbw⟩; have zb := hbw.size)
      | go_in)
    obtain ⟨xr, xu, xl, xt, hX⟩ : ∃ xr xu xl xt, takeOf r u l t now n = (xr, xu, xl, xt) := ⟨_, _, _, _, rfl⟩
    obtain ⟨F, hF⟩ : ∃ F, takeF r u l t now n = F := ⟨_, rfl⟩
    have HX : Hid (takeOf r u l t now n = (xr, xu, xl, xt)) := hX
    have HF : Hid (takeF r u l t now n = F) := hF
    clear hX hF
    obtain ⟨v1, hv⟩ : ∃ v, v = w1.alloc (.cells #[.int .i64 r, .int .i64 u, .int .i64 l, .int .i64 t] 49) := ⟨_, rfl⟩
    rw [← hv]
    have hbA : Below w1.heap.size w1 v1 := by rw [hv]; exact (Below.refl _ _).alloc (Nat.le_refl _) _
    have cA0 : v1.cell? ⟨w1.heap.size, 0, none⟩ = some (.int .i64 r) := by rw [hv]; go_simp
    have cA1 : v1.cell? ⟨w1.heap.size, 1, none⟩ = some (.int .i64 u) := by rw [hv]; go_simp
    have cA2 : v1.cell? ⟨w1.heap.size, 2, none⟩ = some (.int .i64 l) := by rw [hv]; go_simp
    have cA3 : v1.cell? ⟨w1.heap.size, 3, none⟩ = some (.int .i64 t) := by rw [hv]; go_simp
    have zA : w1.heap.size < v1.heap.size := by rw [hv]; simp
    clear hv
    obtain ⟨bt, hbt⟩ : ∃ b, b = w1.heap.size := ⟨_, rfl⟩
    rw [← hbt] at cA0 cA1 cA2 cA3 zA ⊢
    clear hbt
    have hbw := below_two hbw hbA
    clear hbA
    go_upto_region 5 with (first
      | (go_at_call 29; refine (implTake_any r u l t now n _).mono ?_; rintro e w2 ⟨rfl, hb2⟩; rw [HX.out, HF.out]; have hbw := below_two hbw hb2; have k0 := (hb2.cell (p := ⟨bt, 0, none⟩) zA).trans cA0; have k1 := (hb2.cell (p := ⟨bt, 1, none⟩) zA).trans cA1; have k2 := (hb2.cell (p := ⟨bt, 2, none⟩) zA).trans cA2; have k3 := (hb2.cell (p := ⟨bt, 3, none⟩) zA).trans cA3; have zk : bt < w2.heap.size := Nat.lt_of_lt_of_le zA hb2.size))
    clear cA0 cA1 cA2 cA3 zA
    obtain ⟨v2, hv⟩ : ∃ v, v = w2.alloc (.cells #[.int .i64 xr, .int .i64 xu, .int .i64 xl, .int .i64 xt] 49) := ⟨_, rfl⟩
    rw [← hv]
    have hbA : Below w2.heap.size w2 v2 := by rw [hv]; exact (Below.refl _ _).alloc (Nat.le_refl _) _
    have cA0 : v2.cell? ⟨w2.heap.size, 0, none⟩ = some (.int .i64 xr) := by rw [hv]; go_simp
    have cA1 : v2.cell? ⟨w2.heap.size, 1, none⟩ = some (.int .i64 xu) := by rw [hv]; go_simp
    have cA2 : v2.cell? ⟨w2.heap.size, 2, none⟩ = some (.int .i64 xl) := by rw [hv]; go_simp
    have cA3 : v2.cell? ⟨w2.heap.size, 3, none⟩ = some (.int .i64 xt) := by rw [hv]; go_simp
    have zA : w2.heap.size < v2.heap.size := by rw [hv]; simp
    clear hv
    obtain ⟨bx, hbx⟩ : ∃ b, b = w2.heap.size := ⟨_, rfl⟩
    rw [← hbx] at cA0 cA1 cA2 cA3 zA ⊢
    clear hbx
    have hbw := below_two hbw hbA
    have k0 := (hbA.cell (p := ⟨bt, 0, none⟩) zk).trans k0
    have k1 := (hbA.cell (p := ⟨bt, 1, none⟩) zk).trans k1
    have k2 := (hbA.cell (p := ⟨bt, 2, none⟩) zk).trans k2
    have k3 := (hbA.cell (p := ⟨bt, 3, none⟩) zk).trans k3
    have CX : Hid (∀ w', Below v2.heap.size v2 w' → w'.cell? ⟨bx, 0, none⟩ = some (.int .i64 xr) ∧ w'.cell? ⟨bx, 1, none⟩ = some (.int .i64 xu) ∧ w'.cell? ⟨bx, 2, none⟩ = some (.int .i64 xl) ∧ w'.cell? ⟨bx, 3, none⟩ = some (.int .i64 xt)) := fun w' h => ⟨(h.cell (p := ⟨bx, 0, none⟩) zA).trans cA0, (h.cell (p := ⟨bx, 1, none⟩) zA).trans cA1, (h.cell (p := ⟨bx, 2, none⟩) zA).trans cA2, (h.cell (p := ⟨bx, 3, none⟩) zA).trans cA3⟩
    clear hbA hb2
    go_upto_region 6 with (first
      | (go_at_call 30; refine (specTake_any r u l t now n _).mono ?_; rintro e w3 ⟨rfl, hb3⟩; rw [HX.out, HF.out]; have hbw := below_two hbw hb3))
    clear cA0 cA1 cA2 cA3 zA k0 k1 k2 k3 zk
    obtain ⟨v3, hv⟩ : ∃ v, v = w3.alloc (.cells #[.int .i64 xr, .int .i64 xu, .int .i64 xl, .int .i64 xt] 49) := ⟨_, rfl⟩
    rw [← hv]
    have hbA : Below w3.heap.size w3 v3 := by rw [hv]; exact (Below.refl _ _).alloc (Nat.le_refl _) _
    have cA0 : v3.cell? ⟨w3.heap.size, 0, none⟩ = some (.int .i64 xr) := by rw [hv]; go_simp
    have cA1 : v3.cell? ⟨w3.heap.size, 1, none⟩ = some (.int .i64 xu) := by rw [hv]; go_simp
    have cA2 : v3.cell? ⟨w3.heap.size, 2, none⟩ = some (.int .i64 xl) := by rw [hv]; go_simp
    have cA3 : v3.cell? ⟨w3.heap.size, 3, none⟩ = some (.int .i64 xt) := by rw [hv]; go_simp
    have zA : w3.heap.size < v3.heap.size := by rw [hv]; simp
    clear hv
    obtain ⟨b8, hb8⟩ : ∃ b, b = w3.heap.size := ⟨_, rfl⟩
    rw [← hb8] at cA0 cA1 cA2 cA3 zA ⊢
    clear hb8
    have hbw := below_two hbw hbA
    have hr3 := below_two hb3 hbA
    have ⟨i0, i1, i2, i3⟩ := CX.out _ hr3
    clear hbA hb3
    have hFF : (F != F) = false := by cases F <;> rfl
    go_upto_region 8 with (fail)
    clear cA0 cA1 cA2 cA3 zA
    go_cut [52] (fun s wr => ∃ B, s = .bool B ∧ (B = true ∧ (xr = 0 ∧ xu = 0 ∧ xl = 0 ∧ xt = 0) ∨ B = false ∧ ¬ (xr = 0 ∧ xu = 0 ∧ xl = 0 ∧ xt = 0)) ∧ v3 = wr)
    case first =>
      go_wp2
      all_goals go_meet
      all_goals first
        | exact ⟨true, rfl, .inl ⟨rfl, by omega⟩, rfl⟩
        | exact ⟨false, rfl, .inr ⟨rfl, by omega⟩, rfl⟩
    case rest =>
    obtain ⟨B, rfl, hB, rfl⟩ := hcut
    rcases hB with ⟨rfl, rfl, rfl, rfl, rfl⟩ | ⟨rfl, hnz⟩
    · obtain rfl : F = false := HF.out.symm.trans (take_zero HX.out)
      go_wp2
      go_ret
      exact ⟨rfl, hbw⟩
    have HXB : Hid (bokB xr xu xl xt = true) := take_bok HX.out hnz
    clear hnz HX HF hFF
    have HBW : Hid (Below w.heap.size w v3) := hbw
    go_upto_region 11 with (first
      | (go_at_call 14; refine (pickN_any cap0 5000000 (by omega) (by omega) (by omega) (row.mono HBW.out)).mono ?_; rintro e w4 ⟨r0, rfl, r00, r01, _, rfl⟩))
    go_upto_region 12 with (first
      | (go_at_call 14; refine (pickN_any y1c 6000 (by omega) (by omega) (by simp; omega) y1).mono ?_; rintro e w6 ⟨u1, rfl, u10, u11, _, rfl⟩; have HBW : Hid (Below w.heap.size w w6) := HB5.out; have hr3 : Hid (Below v2.heap.size v2 w6) := HR5.out)
      | (at_builtin; refine wpList_pushL [.int .u8 1] (by simp) (by simp) (fun u hu => by rw [List.mem_singleton.1 hu]; exact ⟨1, rfl, by omega, by omega⟩) rfl _ _ rfl rfl rfl (ones_owned _ (Nat.le_refl _) _) ((row.mono (below_two HBW.out (new_below _ _))).up HBW.out.size) hnil.out hs (by simp) ?_; intro y1a y1c w5 y1 hbp; have HB5 : Hid (Below w.heap.size w w5) := below_two HBW.out ((new_below _ _).trans hbp); have HR5 : Hid (Below v2.heap.size v2 w5) := below_two hr3 ((new_below _ _).trans hbp)))
    have hu0 : 1500 ≤ 1500 + u1 ∧ 1500 + u1 < 7500 := by omega
    obtain ⟨hfu, hfk⟩ := full_is ⟨r00, r01⟩ hu0
    have hwu : IntKind.i64.wrap (1500 + u1) = 1500 + u1 := by simp only [IntKind.wrap_i64, wrap64]; omega
    have HFU : Hid (fullOf r0 (1500 + u1) 0 = (r0, 1500 + u1, 1000000000 * (1500 + u1), 0)) := hfu
    have HFK : Hid (fullOk r0 (1500 + u1) 0 = true) := hfk
    obtain ⟨ub, hub⟩ : ∃ x, 1500 + u1 = x := ⟨_, rfl⟩
    rw [hub] at HFU HFK hu0 hwu ⊢
    clear hub hfu hfk u10 u11
    go_upto_region 13 with (first
      | (go_at_call 31; refine (implFull_any r0 ub 0 _).mono ?_; rintro e w7 ⟨rfl, hb7⟩; rw [HFU.out, HFK.out]; have HBW7 : Hid (Below w.heap.size w w7) := below_two HBW.out hb7; have HR7 : Hid (Below v2.heap.size v2 w7) := below_two hr3.out hb7))
    obtain ⟨vy, hvy⟩ : ∃ v, v = w7.alloc (.cells #[.int .i64 r0, .int .i64 ub, .int .i64 (1000000000 * ub), .int .i64 0] 49) := ⟨_, rfl⟩
    rw [← hvy]
    obtain ⟨by', hby⟩ : ∃ b, b = w7.heap.size := ⟨_, rfl⟩
    have Y0 : Hid (Four vy by' r0 ub (1000000000 * ub) 0) := by
      rw [hvy, hby]
      exact ⟨by go_simp, by go_simp, by go_simp, by go_simp, fun i => by go_simp⟩
    have hbv : Below w7.heap.size w7 vy := by rw [hvy]; exact new_below _ _
    have zy : by' < vy.heap.size := by rw [hvy, hby]; simp
    have ly : w7.heap.size ≤ by' ∧ by' ≤ w7.heap.size := by omega
    rw [← hby]
    clear hvy hby
    have B0 : Hid (Below w.heap.size w vy) := below_two HBW7.out hbv
    have R0 : Hid (Below w7.heap.size w7 vy) := hbv
    have hw7 : w.heap.size ≤ w7.heap.size := HBW7.out.size
    have I0 : Hid (TkInv r0 ub 0 0 0 (1000000000 * ub)) := ⟨by omega, by omega, by omega, by omega, by omega, by omega, by rw [Int.mul_zero]; omega⟩
    clear hbv hb7 i0 i1 i2 i3 HB5 HR5 HBW hr3 hbw
    go_wp2
    go_loopw [14, 15, 16] (fun sa ss sj wr => ∃ (j : Nat) (a sm lv : Int), sa = .int .i64 a ∧ ss = .int .i64 sm ∧ sj = .int .i64 j ∧ j ≤ 20 ∧ Hid (TkInv r0 ub j a sm lv) ∧ Hid (Four wr by' r0 ub lv a) ∧ Hid (Below w.heap.size w wr) ∧ Hid (Below w7.heap.size w7 wr) ∧ by' < wr.heap.size) (fun _ _ sj _ => 20 - (intOf sj).toNat)
    case atStart => exact ⟨0, 0, 0, _, rfl, rfl, rfl, by omega, I0, Y0, B0, R0, zy⟩
    case round =>
      clear I0 Y0 B0 R0 zy
      obtain ⟨j, a, sm, lv, rfl, rfl, rfl, hj, HI, HY, HBW, HRR, zy⟩ := hrel
      by_cases hlt : j < 20
      · have hlt' : (j : Int) < 20 := by omega
        have hbt : IntKind.u8.wrap (j : Int) = (j : Int) := byte_of (by omega) (by omega)
        have hBY : Hid (∀ c : Int, 0 ≤ c → c ≤ 255 → ∀ u ∈ [Value.int .u8 (j : Int), .int .u8 c], ∃ z : Int, u = .int .u8 z ∧ 0 ≤ z ∧ z ≤ 255) := fun c c0 c1 u hu => by
          simp only [List.mem_cons, List.not_mem_nil, or_false] at hu
          rcases hu with rfl | rfl
          · exact ⟨_, rfl, by omega, by omega⟩
          · exact ⟨_, rfl, c0, c1⟩
        have ha0 := HI.out.a0
        have ha1 := HI.out.a1
        have hs0 := HI.out.s0
        have hs1 := HI.out.s1
        go_upto_region 19 with (first
          | (go_at_call 14; refine (pickN_any yPc 3000000 (by omega) (by omega) (by simp; omega) yP).mono ?_; rintro e w9 ⟨p, rfl, p0, p1, _, rfl⟩; have hwa : IntKind.i64.wrap (a + p) = a + p := (by simp only [IntKind.wrap_i64, wrap64]; omega); have HB9 : Hid (Below w.heap.size w w9) := HB8.out; have HR9 : Hid (Below w7.heap.size w7 w9) := HR8.out; have HY9 : Hid (Four w9 by' r0 ub lv a) := HY8.out; have z9 : by' < w9.heap.size := z8)
          | (at_builtin; refine wpList_pushL [.int .u8 (j : Int), .int .u8 2] (by simp) (by simp) (hBY.out 2 (by omega) (by omega)) rfl _ _ rfl rfl rfl (twos_owned _ (Nat.le_refl _) _ _) ((row.mono (below_two HBW.out (new_below _ _))).up HBW.out.size) hnil.out hs (by simp) ?_; intro yPa yPc w8 yP hbp; have hb8 := (new_below _ _).trans hbp; have HB8 : Hid (Below w.heap.size w w8) := below_two HBW.out hb8; have HR8 : Hid (Below w7.heap.size w7 w8) := below_two HRR.out hb8; have HY8 : Hid (Four w8 by' r0 ub lv a) := HY.out.only (Only.of_below (b := by' + 1) hb8) zy (by omega); have z8 : by' < w8.heap.size := Nat.lt_of_lt_of_le zy hb8.size))
        go_upto_region 20 with (first
          | (go_at_call 14; refine (pickN_any yQc 1500 (by omega) (by omega) (by simp; omega) yQ).mono ?_; rintro e wb ⟨q, rfl, q0, q1, _, rfl⟩; have hwk : IntKind.i64.wrap (1 + q) = 1 + q := (by simp only [IntKind.wrap_i64, wrap64]; omega); have HBb : Hid (Below w.heap.size w wb) := HBa.out; have HRb : Hid (Below w7.heap.size w7 wb) := HRa.out; have HYb : Hid (Four wb by' r0 ub lv a) := HYa.out; have zb' : by' < wb.heap.size := za)
          | (at_builtin; refine wpList_pushL [.int .u8 (j : Int), .int .u8 3] (by simp) (by simp) (hBY.out 3 (by omega) (by omega)) rfl _ _ rfl rfl rfl (twos_owned _ (Nat.le_refl _) _ _) ((row.mono (below_two HB9.out (new_below _ _))).up HB9.out.size) hnil.out hs (by simp) ?_; intro yQa yQc wa yQ hbp; have hba := (new_below _ _).trans hbp; have HBa : Hid (Below w.heap.size w wa) := below_two HB9.out hba; have HRa : Hid (Below w7.heap.size w7 wa) := below_two HR9.out hba; have HYa : Hid (Four wa by' r0 ub lv a) := HY9.out.only (Only.of_below (b := by' + 1) hba) z9 (by omega); have za : by' < wa.heap.size := Nat.lt_of_lt_of_le z9 hba.size))
        obtain ⟨lv', hto, hby, hX0, hX1, hcase⟩ := tk_step (p := p) (k := 1 + q) HI.out hlt ⟨r00, r01⟩ hu0 ⟨p0, p1⟩ ⟨by omega, by omega⟩
        have HTO : Hid (takeOf r0 ub lv a (a + p) (1 + q) = (r0, ub, lv', a + p)) := hto
        obtain ⟨Bv, hBv⟩ : ∃ x, r0 * (a + p) / 1000000000 = x := ⟨_, rfl⟩
        rw [hBv] at hby hcase
        have HBY : Hid (bytesOf r0 (a + p) = Bv) := hby
        have hB0 : 0 ≤ Bv := by rw [← hBv]; omega
        have hB1 : Bv ≤ 400000 := by rw [← hBv]; omega
        have hwb : IntKind.i64.wrap (ub + Bv) = ub + Bv := by simp only [IntKind.wrap_i64, wrap64]; omega
        clear hto hby hX0 hX1 hBv HYa HY9 HY8 HBa HB9 HB8 HRa HR9 HR8 HY HBW HRR
        have e0 := HYb.out.c0
        have e1 := HYb.out.c1
        have e2 := HYb.out.c2
        have e3 := HYb.out.c3
        rcases hcase with ⟨hF, hI', hle⟩ | ⟨hF, hI', hle⟩
        · have HTF : Hid (takeF r0 ub lv a (a + p) (1 + q) = true) := hF
          have HI2 : Hid (TkInv r0 ub (j + 1) (a + p) (sm + (1 + q)) lv') := hI'
          have hsum : decide (ub + Bv < (sm + (1 + q))) = false := decide_eq_false (by omega)
          have hws : IntKind.i64.wrap (sm + (1 + q)) = sm + (1 + q) := by simp only [IntKind.wrap_i64, wrap64]; omega
          clear hF hI' hle
          go_upto_region 23 with (first
            | (go_at_call 29; refine (implTake_any r0 ub lv a (a + p) (1 + q) _).mono ?_; rintro e wc ⟨rfl, hbc⟩; rw [HTO.out, HTF.out]; have HBc : Hid (Below w.heap.size w wc) := below_two HBb.out hbc; have HRc : Hid (Below w7.heap.size w7 wc) := below_two HRb.out hbc; have HYc : Hid (Four wc by' r0 ub lv a) := HYb.out.only (Only.of_below (b := by' + 1) hbc) zb' (by omega); have zc : by' < wc.heap.size := Nat.lt_of_lt_of_le zb' hbc.size))
          obtain ⟨vz, hvz⟩ : ∃ v, v = wc.alloc (.cells #[.int .i64 r0, .int .i64 ub, .int .i64 lv', .int .i64 (a + p)] 49) := ⟨_, rfl⟩
          rw [← hvz]
          have hbz : Below wc.heap.size wc vz := by rw [hvz]; exact new_below _ _
          have d0 : vz.cell? ⟨wc.heap.size, 0, none⟩ = some (.int .i64 r0) := by rw [hvz]; go_simp
          have d1 : vz.cell? ⟨wc.heap.size, 1, none⟩ = some (.int .i64 ub) := by rw [hvz]; go_simp
          have d2 : vz.cell? ⟨wc.heap.size, 2, none⟩ = some (.int .i64 lv') := by rw [hvz]; go_simp
          have d3 : vz.cell? ⟨wc.heap.size, 3, none⟩ = some (.int .i64 (a + p)) := by rw [hvz]; go_simp
          clear hvz
          have HYz : Hid (Four vz by' r0 ub lv a) := HYc.out.only (Only.of_below (b := by' + 1) hbz) zc (by omega)
          have zz : by' < vz.heap.size := Nat.lt_of_lt_of_le zc hbz.size
          have f0 := HYz.out.c0
          have f1 := HYz.out.c1
          have f2 := HYz.out.c2
          have f3 := HYz.out.c3
          have ff := HYz.out.fr
          go_upto_region 24 with (fail)
          obtain ⟨wd, ewd, g0, g1, g2, g3, far, gf, gsz, hbel⟩ := over4 (.int .i64 r0) (.int .i64 ub) (.int .i64 lv') (.int .i64 (a + p)) f0 f1 f2 f3
          rw [← ewd]
          have HYd : Hid (Four wd by' r0 ub lv' (a + p)) := ⟨g0, g1, g2, g3, fun o => (gf by' o).trans (ff o)⟩
          have HBd : Hid (Below w.heap.size w wd) := (below_two HBc.out hbz).trans (hbel _ (by omega))
          have HRd : Hid (Below w7.heap.size w7 wd) := (below_two HRc.out hbz).trans (hbel _ (by omega))
          have zd : by' < wd.heap.size := by rw [gsz]; exact zz
          clear ewd g0 g1 g2 g3 far gf gsz hbel f0 f1 f2 f3 ff d0 d1 d2 d3 hbz HYz zz
          go_wp2_with (first
            | (go_at_call 32; refine (implBytes_any r0 (a + p) _).mono ?_; rintro e we ⟨rfl, hbe⟩; rw [HBY.out]; have HYe : Hid (Four we by' r0 ub lv' (a + p)) := HYd.out.only (Only.of_below (b := by' + 1) hbe) zd (by omega); have HBe : Hid (Below w.heap.size w we) := below_two HBd.out hbe; have HRe : Hid (Below w7.heap.size w7 we) := below_two HRd.out hbe; have ze : by' < we.heap.size := Nat.lt_of_lt_of_le zd hbe.size))
          go_roundw
          case rel => exact ⟨j + 1, a + p, (sm + (1 + q)), lv', rfl, rfl, by go_num, by omega, HI2, HYe, HBe, HRe, ze⟩
          case measure => first | (simp [intOf]; done) | (simp [intOf]; omega)
        · have HTF : Hid (takeF r0 ub lv a (a + p) (1 + q) = false) := hF
          have HI2 : Hid (TkInv r0 ub (j + 1) (a + p) sm lv') := hI'
          have hsum : decide (ub + Bv < sm) = false := decide_eq_false (by omega)
          have hws : IntKind.i64.wrap (sm + (1 + q)) = sm + (1 + q) := by simp only [IntKind.wrap_i64, wrap64]; omega
          clear hF hI' hle
          go_upto_region 23 with (first
            | (go_at_call 29; refine (implTake_any r0 ub lv a (a + p) (1 + q) _).mono ?_; rintro e wc ⟨rfl, hbc⟩; rw [HTO.out, HTF.out]; have HBc : Hid (Below w.heap.size w wc) := below_two HBb.out hbc; have HRc : Hid (Below w7.heap.size w7 wc) := below_two HRb.out hbc; have HYc : Hid (Four wc by' r0 ub lv a) := HYb.out.only (Only.of_below (b := by' + 1) hbc) zb' (by omega); have zc : by' < wc.heap.size := Nat.lt_of_lt_of_le zb' hbc.size))
          obtain ⟨vz, hvz⟩ : ∃ v, v = wc.alloc (.cells #[.int .i64 r0, .int .i64 ub, .int .i64 lv', .int .i64 (a + p)] 49) := ⟨_, rfl⟩
          rw [← hvz]
          have hbz : Below wc.heap.size wc vz := by rw [hvz]; exact new_below _ _
          have d0 : vz.cell? ⟨wc.heap.size, 0, none⟩ = some (.int .i64 r0) := by rw [hvz]; go_simp
          have d1 : vz.cell? ⟨wc.heap.size, 1, none⟩ = some (.int .i64 ub) := by rw [hvz]; go_simp
          have d2 : vz.cell? ⟨wc.heap.size, 2, none⟩ = some (.int .i64 lv') := by rw [hvz]; go_simp
          have d3 : vz.cell? ⟨wc.heap.size, 3, none⟩ = some (.int .i64 (a + p)) := by rw [hvz]; go_simp
          clear hvz
          have HYz : Hid (Four vz by' r0 ub lv a) := HYc.out.only (Only.of_below (b := by' + 1) hbz) zc (by omega)
          have zz : by' < vz.heap.size := Nat.lt_of_lt_of_le zc hbz.size
          have f0 := HYz.out.c0
          have f1 := HYz.out.c1
          have f2 := HYz.out.c2
          have f3 := HYz.out.c3
          have ff := HYz.out.fr
          go_upto_region 24 with (fail)
          obtain ⟨wd, ewd, g0, g1, g2, g3, far, gf, gsz, hbel⟩ := over4 (.int .i64 r0) (.int .i64 ub) (.int .i64 lv') (.int .i64 (a + p)) f0 f1 f2 f3
          rw [← ewd]
          have HYd : Hid (Four wd by' r0 ub lv' (a + p)) := ⟨g0, g1, g2, g3, fun o => (gf by' o).trans (ff o)⟩
          have HBd : Hid (Below w.heap.size w wd) := (below_two HBc.out hbz).trans (hbel _ (by omega))
          have HRd : Hid (Below w7.heap.size w7 wd) := (below_two HRc.out hbz).trans (hbel _ (by omega))
          have zd : by' < wd.heap.size := by rw [gsz]; exact zz
          clear ewd g0 g1 g2 g3 far gf gsz hbel f0 f1 f2 f3 ff d0 d1 d2 d3 hbz HYz zz
          go_wp2_with (first
            | (go_at_call 32; refine (implBytes_any r0 (a + p) _).mono ?_; rintro e we ⟨rfl, hbe⟩; rw [HBY.out]; have HYe : Hid (Four we by' r0 ub lv' (a + p)) := HYd.out.only (Only.of_below (b := by' + 1) hbe) zd (by omega); have HBe : Hid (Below w.heap.size w we) := below_two HBd.out hbe; have HRe : Hid (Below w7.heap.size w7 we) := below_two HRd.out hbe; have ze : by' < we.heap.size := Nat.lt_of_lt_of_le zd hbe.size))
          go_roundw
          case rel => exact ⟨j + 1, a + p, sm, lv', rfl, rfl, by go_num, by omega, HI2, HYe, HBe, HRe, ze⟩
          case measure => first | (simp [intOf]; done) | (simp [intOf]; omega)
      · obtain rfl : j = 20 := by omega
        have HXC := CX.out _ (below_two HR7.out HRR.out)
        have ⟨i0, i1, i2, i3⟩ := HXC
        clear HXC
        have hyb := tk_bok HI.out (by omega) ⟨r00, r01⟩ hu0
        have HYB : Hid (bokB r0 ub lv a = true) := hyb
        have f0 := HY.out.c0
        have f1 := HY.out.c1
        have f2 := HY.out.c2
        have f3 := HY.out.c3
        clear hyb
        go_wp2_with (first
          | (go_at_call 33; have g1 := hq1; refine (bokIs HYB.out _).mono ?_; rintro e wg ⟨rfl, hbg⟩; have hfin := below_two hq1.out hbg)
          | (go_at_call 33; refine (bokIs HXB.out _).mono ?_; rintro e wf ⟨rfl, hbf⟩; have hq1 : Hid (Below w.heap.size w wf) := below_two HBW.out hbf; have HYf := HY.out.only (Only.of_below (b := by' + 1) hbf) zy (by omega); have f0 := HYf.c0; have f1 := HYf.c1; have f2 := HYf.c2; have f3 := HYf.c3))
        go_ret
        exact ⟨rfl, hfin⟩
  · have hbig : (4096 : Int) < (len0 : Int) := by omega
    go_enter Try.func7, Try.ntmps7
    go_wp2
    go_ret
    exact ⟨rfl, Below.refl _ _⟩

/-! ### THE ROW's STEP: WRITTEN OUT: LEAVE IT -/
set_option maxRecDepth 100000 in
theorem lifted (os : Os) (started : os.Started) (H : Type) (enc : TypeId × Value → H) :
    ReturnsInHanded {} Try.checked os 7 .any (Rows.fnTakenSpec.pre6 enc Try.prog Try.f7 Rows.fnTakenRow.domain false) (Rows.fnTakenSpec.post enc Try.prog Try.f7 false true false false) := by
  refine returnsInHanded_of_change (C := Try.checked) own started (by kernel_rfl) Try.func7
    (ChangeSpec.witness6 (enc := enc) (C := Try.checked) false ⟨#[], #[.slice none 0 0], []⟩ 8 (by kernel_rfl) (by kernel_rfl) (by kernel_rfl) (by kernel_rfl)) ?_
  intro W base args ds gs before hval0 hW hcnd _
  have hval : ∀ (j : Nat) t v, Try.f7.params[j]? = some t → args[j]? = some v → Value.okWide Try.prog W .any base t v := hval0
  have hW' := hW
  obtain ⟨p, q, hA0, hV, rfl, hfz, hnd⟩ := hW
  have hA : DataW.TrodAll enc Try.prog W 0 (fun _ => true) true Try.f7.params.toList args.toList ds p := hA0
  rw [Try.params7] at hA hval
  obtain ⟨v0, vs0, d0, ds0, p0, q0, hargs, rfl, rfl, h0, r0⟩ := trodAll_cons hA
  obtain ⟨rfl, rfl, rfl⟩ := trodAll_nil r0
  obtain rfl : args = #[v0] := by cases args; simp_all
  obtain ⟨rfl, rfl⟩ := trodVars_none hV
  obtain ⟨a0, len0, cap0, rfl⟩ := okWide_slice Try.underlying22 (hval 0 22 v0 rfl rfl)
  have k0 := h0
  have lt0 : ∀ x ∈ p0, x.block < W.heap.size := by obtain ⟨m, hm⟩ := k0; exact DataW.trod_lt m _ _ _ hm
  obtain ⟨z0, w0⟩ : ∃ zs, IsRow .u8 W a0 len0 cap0 zs := by
    obtain ⟨fuel, hf⟩ := h0
    rcases open_ints Try.underlying22 Try.underlying5 (by kernel_rfl) hf with ⟨hcs, _⟩ | ⟨x, l, c, zs, hcs, _, hl, hm, hz, _, hcell, hwz⟩
    · simp [Value.cells] at hcs
      obtain ⟨rfl, rfl, rfl⟩ := hcs
      exact ⟨[], .inl ⟨rfl, rfl, rfl, rfl⟩⟩
    · simp [Value.cells] at hcs
      obtain ⟨rfl, rfl, rfl⟩ := hcs
      exact ⟨zs, .inr ⟨_, rfl, hl, hm, by simpa using hz, hcell, hwz⟩⟩
  clear hA0 hval0
  refine (walk a0 len0 cap0 z0 W w0).mono fun e W' ⟨he, bel⟩ => ?_
  subst he
  exact ⟨_, rfl, _, _, _, [], _, [], hW', trodAll_mk1 (shut_bool Try.underlying4 _), (trodAll_cons_mk (Below.trod laidOut (by kernel_rfl) (of_decide_eq_true (by kernel_rfl)) k0 bel lt0) trodAll_mk0), rfl, bel.frame _, fun h => by cases h⟩

theorem over : Rows.fnTakenRow.holds Try.pinned (OpenSpec.ofChange Rows.fnTakenSpec) :=
  OpenClaim.holds_of_wide 7 Try.f7 rfl rfl rfl rfl rfl rfl rfl ⟨rfl, rfl, rfl, rfl, rfl⟩ rfl rfl rfl rfl rfl (by kernel_rfl) Try.func7 (by kernel_rfl)
    (of_decide_eq_true (by kernel_rfl)) (by unfold Func.isWrapper; first | (rw [if_pos (by decide +kernel)]; kernel_rfl) | (rw [if_neg (by decide +kernel)]; exact ⟨rfl, rfl⟩))
    (fun os started H enc _ => lifted os started H enc)

/-- ████ THE STATEMENT ████ -/
theorem proved : Rows.FnTakenSaid := over
#print axioms proved
end Go.Proofs.Ytohenfogiegkmab.fnTaken
namespace Go.Proofs.Ytohenfogiegkmab
theorem fnTaken_holds : Rows.FnTakenSaid := fnTaken.proved
#print axioms fnTaken_holds
end Go.Proofs.Ytohenfogiegkmab
