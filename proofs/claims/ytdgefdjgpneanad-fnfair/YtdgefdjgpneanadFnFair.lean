/- Proved: whatever the bytes, the law FnFair returns true (of three queues of a hundred sizes each, which are so never empty, with the quanta and the sizes that the bytes tell, what impl.ServeAll serves of any two is by their quanta, to within a turn and a segment, and impl.ServeAll tells what spec's does), and the bytes read as before; no condition. -/
import Derived.Test.YtdgefdjgpneanadRows
import Derived.WalkKit
import Derived.ProofKit
import Derived.OpenShut
import Derived.ShutString
import Derived.ChangeOld
import Derived.Below
import Derived.Test.YtdgefdjgpneanadAllBoth
import Derived.Test.YtdgefdjgpneanadFairLaw
import Derived.Test.YtdgefdjgpneanadFairMath
import Derived.Test.YtdgefdjgpneanadLikeI
import Derived.Deep.RegionHeld3
import Derived.Deep.DeepCutAuto
import Derived.BigQuiet
namespace Go.Proofs.Ytdgefdjgpneanad.fnFair
open Go.ChangeShapes Go.WideShapes Go.ChangeAt Go.RowKit
open Go.ChangeMaps (open_string shut_string)
set_option linter.unusedVariables false

theorem own : ownKnob Try.prog.godebug = none := by kernel_rfl
theorem laidOut : laidOutB Try.prog = true := by kernel_rfl

/-- WHAT THE WALK IS TOLD OF A SLICE OF INTEGERS THAT CAME IN: it is nil; or it leads to a row of 'cap' cells, the numbers 'zs' (the first 'len' are its elements, the rest its spare room), each fitting its kind. -/
def IsRow (k : IntKind) (w : World) (a : Option Addr) (len cap : Nat) (zs : List Int) : Prop :=
  (a = none ∧ len = 0 ∧ cap = 0 ∧ zs = []) ∨
  ∃ x, a = some x ∧ len ≤ cap ∧ cap ≤ maxLen ∧ zs.length = cap ∧ (∀ i, i < zs.length → w.cell? (x.add i) = some (.int k (zs.getD i 0))) ∧ ∀ n ∈ zs, (Lit.int k n).wf = true

set_option linter.unusedSimpArgs false
set_option maxRecDepth 100000
theorem row_of {w : World} {a : Option Addr} {len cap : Nat} {zs : List Int} (h : IsRow .u8 w a len cap zs) : Row w.heap.size a len w := by
  intro i hi
  rcases h with ⟨rfl, rfl, rfl, rfl⟩ | ⟨x, rfl, hl, hm, hz, hcell, hwz⟩
  · omega
  · obtain ⟨b, off, spot⟩ := x
    have hspot : spot = none := by simpa [Addr.add] using World.cell?_spot (hcell 0 (by omega))
    subst hspot
    have hc := hcell i (by omega)
    have hc' : w.cell? ⟨b, off + i, none⟩ = some (.int .u8 (zs.getD i 0)) := by
      by_cases h0 : i = 0
      · subst h0; simpa [Addr.add] using hc
      · simpa [Addr.add, h0] using hc
    have hlt : i < zs.length := by omega
    have hm : zs.getD i 0 ∈ zs := by simp [List.getD, List.getElem?_eq_getElem hlt]
    obtain ⟨z0, z1⟩ := bounds_u8 (hwz _ hm)
    exact ⟨b, off, zs.getD i 0, rfl, World.block_lt_of_cell? w _ hc', hc', z0, z1⟩
theorem nil_of {w : World} {a : Option Addr} {len cap : Nat} {zs : List Int} (h : IsRow .u8 w a len cap zs) : a = none → len = 0 ∧ cap = 0 := by
  rintro rfl
  rcases h with ⟨_, h1, h2, _⟩ | ⟨x, h, _⟩
  · exact ⟨h1, h2⟩
  · cases h
theorem same_t {xs : List Int} : decide (xs = xs) = true := decide_eq_true rfl
theorem iv_smp {w : World} {lo n c : Nat} {a : Option Addr} {xs : List Int} (h : IV w lo (.slice a n c) xs) : n = xs.length ∧ ISmp w.heap.size w a xs := by
  obtain ⟨a', c', e, k⟩ := h.smp
  injection e with e1 e2 e3
  subst e1
  exact ⟨e2, k⟩
theorem iv_slice {w : World} {lo : Nat} {v : Value} {xs : List Int} (h : IV w lo v xs) : ∃ a c, v = .slice a xs.length c := by
  obtain ⟨a, c, e, _⟩ := h.smp
  exact ⟨a, c, e⟩
theorem full_turns {fs : List F8} (hl : fs.length = 3) (h : ∀ f ∈ fs, FullF f) : TurnsOk fs 0 true := by
  refine ⟨by omega, by omega, by omega, by omega, fun k hk => ?_, fun k hk _ => ?_⟩
  · have f := h _ (List.getElem_mem hk)
    have := f.q0
    have := f.q1
    have := f.d
    exact ⟨by omega, by omega, by omega, by omega, by rw [f.len]; omega, fun e => f.d, f.seg⟩
  · have := (h _ (List.getElem_mem hk)).d
    omega

/-! ### STEP 1: THE WALK: the Go text returns true, AND WRITES NOTHING THAT WAS THERE: 'Below w.heap.size w w'' (Derived/Below.lean: '.refl', '.alloc', '.drew', '.setCell' at a new block, '.trans'). Open each 'IsRow' by 'rcases' AHEAD of 'go_enter'; part every test ahead of the walk. -/
set_option maxHeartbeats 32000000 in
theorem walk (a0 : Option Addr) (len0 cap0 : Nat) (z0 : List Int) (w : World) (w0 : IsRow .u8 w a0 len0 cap0 z0) :
    Calls Try.prog 6 #[.slice a0 len0 cap0] w fun e w' => e = .returned (.bool true) ∧ Below w.heap.size w w' := by
  have row := row_of w0
  have hnil : Hid (a0 = none → len0 = 0 ∧ cap0 = 0) := nil_of w0
  by_cases hs : len0 ≤ 4096
  · obtain ⟨i0, hi0, hz0, hz1', hz2⟩ := info_parts info_int
    obtain ⟨i1, hj, hy0, hy1, hy2⟩ := info_parts info_flow
    go_enter Try.func6, Try.ntmps6
    go_upto_region 4 with (first | go_in)
    obtain ⟨v3, hv⟩ : ∃ v, v = w.alloc (.cells #[.slice none 0 0, .int .i64 0, .bool true] 48) := ⟨_, rfl⟩
    rw [← hv]
    obtain ⟨lo, hlo⟩ : ∃ l, l = v3.heap.size := ⟨_, rfl⟩
    have L0 : Hid (LF w v3 lo w.heap.size (.slice none 0 0) [] []) := by
      have C0 : CpSt v3 v3.heap.size (.slice none 0 0) [] [] := ⟨⟨rfl, .inl ⟨rfl, rfl⟩⟩, rfl, fun i h => by simp at h, fun i h => by simp at h, fun i h => by cases h⟩
      rw [hlo]
      have t0 : v3.cell? ⟨w.heap.size, 0, none⟩ = some (.slice none 0 0) := by rw [hv]; go_simp
      have t1 : v3.cell? ⟨w.heap.size, 1, none⟩ = some (.int .i64 0) := by rw [hv]; go_simp
      have t2 : v3.cell? ⟨w.heap.size, 2, none⟩ = some (.bool true) := by rw [hv]; go_simp
      have tf : ∀ o : Nat, v3.frozen? ⟨w.heap.size, o, none⟩ = false := fun o => by rw [hv]; go_simp
      exact ⟨by rw [hv]; exact newB _ _, t0, t1, t2, tf, Nat.le_refl _, by rw [hv]; simp, Nat.le_refl _, C0, fun f hf => by cases hf⟩
    clear hv hlo
    obtain ⟨b3, hb3⟩ : ∃ b, b = w.heap.size := ⟨_, rfl⟩
    rw [← hb3] at L0
    rw [show (some ({ block := w.heap.size, off := 0 } : Addr)) = some ⟨b3, 0, none⟩ by rw [hb3]]
    clear hb3
    go_wp2
    go_loopw [4] (fun s wr => ∃ (j : Nat) (sa : Option Addr) (sc : Nat) (G : List G8) (fs : List F8), s = .int .i64 j ∧ j ≤ 3 ∧ Hid (fs.length = j) ∧ Hid (LF w wr lo b3 (.slice sa fs.length sc) G fs)) (fun s _ => 3 - (intOf s).toNat)
    case atStart => exact ⟨0, none, 0, [], [], rfl, by omega, rfl, L0⟩
    case round =>
      clear L0
      obtain ⟨j, sa, sc, G, fs, rfl, hj3, HFL, LR⟩ := hrel
      by_cases hlj : j < 3
      · have hlj' : (j : Int) < 3 := by omega
        have hj8 : IntKind.u8.wrap (j : Int) = (j : Int) := byte_of (by omega) (by omega)
        have hfl2 : fs.length ≤ 2 := by have := HFL.out; omega
        go_upto_region 8 with (first
          | (at_builtin; refine wpList_pushL [.int .u8 (j : Int)] (by simp) (by simp) (fun u hu => by rw [List.mem_singleton] at hu; subst hu; exact ⟨_, rfl, by omega, by omega⟩) rfl _ _ rfl rfl rfl (ones_owned _ (Nat.le_refl _) _) ((row.mono (below_step LR.out.hb (new_below _ _))).up LR.out.hb.size) hnil.out hs (by simp) ?_; intro a1 c1 wA row1 hbp; have hb1 : Below wr.heap.size wr wA := (new_below wr (.cells #[.int .u8 (j : Int)] 5)).trans hbp; have LP : Hid (LF w wA lo b3 (.slice sa fs.length sc) G fs) := LR.out.next hb1)
          | (go_at_call 33; refine (pickN_any c1 4000 (by omega) (by omega) (by simp only [List.length_cons, List.length_nil]; omega) row1).mono ?_; rintro e wq ⟨qk, rfl, qk0, qk1, _, hwe⟩; subst hwe; have hwq : IntKind.i64.wrap (1500 + qk) = 1500 + qk := (by rw [IntKind.wrap_i64]; omega)))
        obtain ⟨q, hq⟩ : ∃ q, 1500 + qk = q := ⟨_, rfl⟩
        have hq0 : 1500 ≤ q ∧ q ≤ 10000 := by omega
        rw [hq]
        obtain ⟨v5, hv⟩ : ∃ v, v = wq.alloc (.cells #[.int .i64 q, .int .i64 0, .slice none 0 0] 61) := ⟨_, rfl⟩
        rw [← hv]
        have E0 : Hid (LE w v5 lo b3 (.slice sa fs.length sc) G fs wq.heap.size q (.slice none 0 0) []) := by rw [hv]; exact LE.begin LP.out q
        clear hv hwq hq row1 hbp hb1 LP LR
        obtain ⟨b5, hb5⟩ : ∃ b, b = wq.heap.size := ⟨_, rfl⟩
        rw [← hb5] at E0 ⊢
        clear hb5
        go_wp2
        go_loopw [6] (fun s wr => ∃ (k : Nat) (sv : Option Addr) (cv : Nat) (xs : List Int), s = .int .i64 k ∧ k ≤ 100 ∧ Hid (xs.length = k) ∧ Hid (LE w wr lo b3 (.slice sa fs.length sc) G fs b5 q (.slice sv xs.length cv) xs)) (fun s _ => 100 - (intOf s).toNat)
        case atStart => exact ⟨0, none, 0, [], rfl, by omega, rfl, E0⟩
        case round =>
          clear E0
          obtain ⟨k, sv, cv, xs, rfl, hk, HXL, EI⟩ := hrel
          by_cases hlk : k < 100
          · have hlk' : (k : Int) < 100 := by omega
            have hk8 : IntKind.u8.wrap (k : Int) = (k : Int) := byte_of (by omega) (by omega)
            have hxl : xs.length ≤ 100 := by have := HXL.out; omega
            go_upto_region 11 with (fail)
            refine region_late (S := fun w' => w'.cell? ⟨b5, 2, none⟩ = some (.slice sv xs.length cv)) 14 (by kernel_rfl) (EI.out.f2) (fun hS => ?_)
            refine late_take (i := 0) (v := ?_) rfl (by kernel_rfl) (by kernel_rfl) (by kernel_rfl) (by kernel_rfl) (fun _ _ _ h => h) (Or.inl ⟨by rfl, ?_⟩) (by assumption) ?_
            rotate_left 1
            · (intro w' hSw; (try dsimp only at hSw); go_simp; try with_reducible rfl)
            try simp only [Act.put, List.setIfInBounds_toArray, List.set_cons_zero, List.set_cons_succ, List.getElem_toArray, List.getElem_cons_succ, List.getElem_cons_zero]
            refine late_take (i := 1) (v := ?_) rfl (by kernel_rfl) (by kernel_rfl) (by kernel_rfl) (by kernel_rfl) (fun _ _ _ h => h) (Or.inl ⟨by rfl, ?_⟩) (by assumption) ?_
            rotate_left 1
            · (intro w' hSw; (try dsimp only at hSw); go_simp; try with_reducible rfl)
            try simp only [Act.put, List.setIfInBounds_toArray, List.set_cons_zero, List.set_cons_succ, List.getElem_toArray, List.getElem_cons_succ, List.getElem_cons_zero]
            refine late_take (i := 2) (v := ?_) rfl (by kernel_rfl) (by kernel_rfl) (by kernel_rfl) (by kernel_rfl) (fun _ _ _ h => h) (Or.inl ⟨by rfl, ?_⟩) (by assumption) ?_
            rotate_left 1
            · (intro w' hSw; (try dsimp only at hSw); go_simp; try with_reducible rfl)
            try simp only [Act.put, List.setIfInBounds_toArray, List.set_cons_zero, List.set_cons_succ, List.getElem_toArray, List.getElem_cons_succ, List.getElem_cons_zero]
            refine late_take (i := 3) (v := ?_) rfl (by kernel_rfl) (by kernel_rfl) (by kernel_rfl) (by kernel_rfl) (fun _ _ _ h => h) (Or.inl ⟨by rfl, ?_⟩) (by assumption) ?_
            rotate_left 1
            · (intro w' hSw; (try dsimp only at hSw); go_simp; try with_reducible rfl)
            try simp only [Act.put, List.setIfInBounds_toArray, List.set_cons_zero, List.set_cons_succ, List.getElem_toArray, List.getElem_cons_succ, List.getElem_cons_zero]
            refine late_take (i := 4) (v := ?_) rfl (by kernel_rfl) (by kernel_rfl) (by kernel_rfl) (by kernel_rfl) (fun _ _ _ h => h) (Or.inl ⟨by rfl, ?_⟩) (by assumption) ?_
            rotate_left 1
            · (intro w' hSw; (try dsimp only at hSw); go_simp; try with_reducible rfl)
            try simp only [Act.put, List.setIfInBounds_toArray, List.set_cons_zero, List.set_cons_succ, List.getElem_toArray, List.getElem_cons_succ, List.getElem_cons_zero]
            refine late_take (i := 5) (v := ?_) rfl (by kernel_rfl) (by kernel_rfl) (by kernel_rfl) (by kernel_rfl) (fun _ _ _ h => h) (Or.inl ⟨by rfl, ?_⟩) (by assumption) ?_
            rotate_left 1
            · (intro w' hSw; (try dsimp only at hSw); go_simp; try with_reducible rfl)
            try simp only [Act.put, List.setIfInBounds_toArray, List.set_cons_zero, List.set_cons_succ, List.getElem_toArray, List.getElem_cons_succ, List.getElem_cons_zero]
            refine late_take (i := 7) (v := ?_) rfl (by kernel_rfl) (by kernel_rfl) (by kernel_rfl) (by kernel_rfl) (fun _ _ _ h => h) (Or.inl ⟨by rfl, ?_⟩) (by assumption) ?_
            rotate_left 1
            · (intro w' hSw; (try dsimp only at hSw); go_simp; try with_reducible rfl)
            try simp only [Act.put, List.setIfInBounds_toArray, List.set_cons_zero, List.set_cons_succ, List.getElem_toArray, List.getElem_cons_succ, List.getElem_cons_zero]
            refine late_one (i := 6) (by kernel_rfl) rfl (fun K hK => ?_)
            go_simp
            have nb1 : Below wr.heap.size wr (wr.drew.alloc (.cells #[.int .u8 (j : Int), .int .u8 (k : Int)] 5)) := (Below.refl _ _).drew.trans (newB wr.drew (.cells #[.int .u8 (j : Int), .int .u8 (k : Int)] 5))
            refine hK.out _ _ ((nb1.cell (p := ⟨b5, 2, none⟩) EI.out.b1).trans EI.out.f2) (fun hS => ?_)
            try simp only [Act.put, List.setIfInBounds_toArray, List.set_cons_zero, List.set_cons_succ, List.getElem_toArray, List.getElem_cons_succ, List.getElem_cons_zero]
            refine late_one (i := 8) (by kernel_rfl) rfl (fun K hK => ?_)
            rw [if_pos (by rfl)]
            refine wp_pushL [.int .u8 (j : Int), .int .u8 (k : Int)] (by simp) (by simp) (fun u hu => by rcases List.mem_cons.1 hu with rfl | hu; exact ⟨_, rfl, by omega, by omega⟩; rw [List.mem_singleton] at hu; subst hu; exact ⟨_, rfl, by omega, by omega⟩) _ _ rfl rfl rfl (twos_owned wr.drew (Nat.le_refl _) _ _) ((row.mono (below_step EI.out.d.hb nb1)).up EI.out.d.hb.size) hnil.out hs (by simp) ?_
            intro a4 c4 w4 row4 hb4
            have hbi : Below wr.heap.size wr w4 := nb1.trans hb4
            have E4 : Hid (LE w w4 lo b3 (.slice sa fs.length sc) G fs b5 q (.slice sv xs.length cv) xs) := EI.out.next hbi
            refine hK.out _ _ E4.out.f2 (fun hS => ?_)
            try simp only [Act.put, List.setIfInBounds_toArray, List.set_cons_zero, List.set_cons_succ, List.getElem_toArray, List.getElem_cons_succ, List.getElem_cons_zero]
            refine late_one (i := 9) (by kernel_rfl) rfl (fun K hK => ?_)
            go_simp
            (refine (pickN_any c4 1500 (by omega) (by omega) (by simp only [List.length_cons, List.length_nil]; omega) row4).mono ?_; rintro e w5 ⟨z, rfl, zq0, zq1, _, hwe⟩; subst hwe; have hS := E4.out.f2; have hwz : IntKind.i64.wrap (1 + z) = 1 + z := (by rw [IntKind.wrap_i64]; omega); have hb5z := E4.out.b1; have hloz := E4.out.d.z2)
            refine hK.out _ _ (by assumption) (fun _ => ?_)
            try simp only [Act.put, List.setIfInBounds_toArray, List.set_cons_zero, List.set_cons_succ, List.getElem_toArray, List.getElem_cons_succ, List.getElem_cons_zero]
            refine late_take (i := 10) (v := ?_) rfl (by kernel_rfl) (by kernel_rfl) (by kernel_rfl) (by kernel_rfl) (fun _ _ _ h => h) (Or.inl ⟨by rfl, ?_⟩) (by assumption) ?_
            rotate_left 1
            · (intro w' hSw; (try dsimp only at hSw); go_simp; try with_reducible rfl)
            try simp only [Act.put, List.setIfInBounds_toArray, List.set_cons_zero, List.set_cons_succ, List.getElem_toArray, List.getElem_cons_succ, List.getElem_cons_zero]
            refine late_one (i := 11) (by kernel_rfl) rfl (fun K hK => ?_)
            go_simp
            refine hK.out _ _ (((newB w5 (.cells #[.int .i64 (1 + z)] 2)).cell (p := ⟨b5, 2, none⟩) hb5z).trans E4.out.f2) (fun hS => ?_)
            try simp only [Act.put, List.setIfInBounds_toArray, List.set_cons_zero, List.set_cons_succ, List.getElem_toArray, List.getElem_cons_succ, List.getElem_cons_zero]
            refine late_one (i := 12) (by kernel_rfl) rfl (fun K hK => ?_)
            rw [if_pos (by rfl)]
            refine wp_append_two _ _ _ 51 rfl lo 2 i0 _ 1 8 Try.underlying51 hi0 hz0 hz1' hz2 rfl (by decide) _ _ _ rfl (row_next E4.out.row (newB _ _)) ⟨w5.heap.size, 0, none⟩ 1 1 [.int .i64 (1 + z)] rfl rfl (one_news (by go_simp)) (fun u hu => by rw [List.mem_singleton] at hu; subst hu; rfl) (by unfold maxLen; omega) (by omega) (by simp; omega) (by decide) ?_
            intro v' w6 own6 gr6 two6
            obtain ⟨fa, fc, rfl⟩ := own_slice own6
            have E6 : Hid (LE w (w6.setCell ⟨b5, 2, none⟩ (.slice fa (xs.length + 1) fc)) lo b3 (.slice sa fs.length sc) G fs b5 q (.slice fa (xs.length + 1) fc) (xs ++ [1 + z])) := E4.out.app (newB _ _) own6 gr6 two6 ⟨by omega, by omega⟩
            have hno : (Value.slice sv xs.length cv).ownBlock ≠ some b5 := fun e' => by have := E4.out.hv b5 e'; omega
            have hbl : w6.heap[b5]? = w5.heap[b5]? := (gr6.block b5 (by simp; omega) (fun e' => hno e'.symm)).trans ((newB w5 _).block b5 hb5z)
            have u2 : w6.cell? ⟨b5, 2, none⟩ = some (.slice sv xs.length cv) := (World.cell?_of_block (a := ⟨b5, 2, none⟩) hbl).trans E4.out.f2
            have uf : w6.frozen? ⟨b5, 2, none⟩ = false := (World.frozen?_of_block (a := ⟨b5, 2, none⟩) hbl).trans (E4.out.ff 2)
            refine hK.out _ _ u2 (fun hS => ?_)
            try simp only [Act.put, List.setIfInBounds_toArray, List.set_cons_zero, List.set_cons_succ, List.getElem_toArray, List.getElem_cons_succ, List.getElem_cons_zero]
            refine late_take (i := 13) (v := ?_) rfl (by kernel_rfl) (by kernel_rfl) (by kernel_rfl) (by kernel_rfl) (fun _ _ _ h => h) (Or.inl ⟨by rfl, ?_⟩) (by assumption) ?_
            rotate_left 1
            · (intro w' hSw; (try dsimp only at hSw); go_simp; try with_reducible rfl)
            try simp only [Act.put, List.setIfInBounds_toArray, List.set_cons_zero, List.set_cons_succ, List.getElem_toArray, List.getElem_cons_succ, List.getElem_cons_zero]
            refine late_last (by kernel_rfl) rfl (by kernel_rfl) (fun K hK => ?_)
            go_simp
            refine hK.out _ _ ?_
            try simp only [Act.put, List.setIfInBounds_toArray, List.set_cons_zero, List.set_cons_succ, List.getElem_toArray, List.getElem_cons_succ, List.getElem_cons_zero]
            go_wp2
            go_roundw
            case rel => exact ⟨k + 1, fa, fc, xs ++ [1 + z], by go_num, by omega, by show (xs ++ [1 + z]).length = k + 1; rw [List.length_append, HXL.out]; rfl, by (have h6 := E6.out; show LE w _ lo b3 (.slice sa fs.length sc) G fs b5 q (.slice fa (xs ++ [1 + z]).length fc) (xs ++ [1 + z]); rw [List.length_append]; exact h6)⟩
            case measure => first | (simp [intOf]; done) | (simp [intOf]; omega)
          · have hk100 : k = 100 := by omega
            have hx100 : xs.length = 100 := by rw [HXL.out, hk100]
            have HX100 : Hid (xs.length = 100) := hx100
            clear hx100
            have hlk' : ¬ (k : Int) < 100 := by omega
            clear hk100
            have et0 := EI.out.d.t0
            have etf := EI.out.d.tf 0
            have ef0 := EI.out.f0
            have ef1 := EI.out.f1
            have ef2 := EI.out.f2
            have HRW : Hid ((wr.alloc (.cells #[.int .i64 q, .int .i64 0, .slice sv xs.length cv] 61)).ownsRow lo 61 3 (.slice sa fs.length sc) fs.length (flatF G)) := row_next EI.out.d.st.row (newB _ _)
            have ONE : Hid (∀ u ∈ [Value.int .i64 q, .int .i64 0, .slice sv xs.length cv], u.oneCell' = true) := fun u hu => by
              simp only [List.mem_cons, List.not_mem_nil, or_false] at hu
              rcases hu with rfl | rfl | rfl <;> rfl
            have hloz := EI.out.d.z2
            have hb3z := EI.out.d.z1
            have et0z : b3 < wr.heap.size := by omega
            go_wp2_with (first
              | (at_builtin; refine wpList_append_own _ rfl _ _ 46 rfl lo 61 i1 _ 3 40 Try.underlying46 hj hy0 hy1 hy2 rfl (by decide) _ fs.length (flatF G) rfl HRW.out ⟨wr.heap.size, 0, none⟩ 1 1 [.int .i64 q, .int .i64 0, .slice sv xs.length cv] rfl rfl (three_news (by go_simp) (by go_simp) (by go_simp)) ONE.out (by unfold maxLen; omega) (by omega) (by simp; omega) ?_; intro vF w6 own6 gr6 hnl; clear hnl; obtain ⟨fa, fc, rfl⟩ := own_slice own6; have hlo6 : ∀ y, y < lo → w6.heap[y]? = wr.heap[y]? := (fun y hy => (gr6.block y (by simp; omega) (fun e' => by have := (HRW.out.lt y e'.symm).1; omega)).trans ((newB wr _).block y (by omega))); have u0 : w6.cell? ⟨b3, 0, none⟩ = some (.slice sa fs.length sc) := (World.cell?_of_block (a := ⟨b3, 0, none⟩) (hlo6 _ hb3z)).trans et0; have uf0 : w6.frozen? ⟨b3, 0, none⟩ = false := (World.frozen?_of_block (a := ⟨b3, 0, none⟩) (hlo6 _ hb3z)).trans etf; have DP : Hid (LF w (w6.setCell ⟨b3, 0, none⟩ (.slice fa (fs.length + 1) fc)) lo b3 (.slice fa (fs.length + 1) fc) (G ++ [(q, 0, .slice sv xs.length cv)]) (fs ++ [(q, 0, xs)])) := EI.out.push (newB _ _) own6 gr6 HX100.out hq0; clear hlo6))
            go_roundw
            case rel => exact ⟨j + 1, fa, fc, _, fs ++ [(q, 0, xs)], by go_num, by omega, by show (fs ++ [(q, 0, xs)]).length = j + 1; rw [List.length_append, HFL.out]; rfl, by (have h6 := DP.out; show LF w _ lo b3 (.slice fa (fs ++ [(q, 0, xs)]).length fc) _ (fs ++ [(q, 0, xs)]); rw [List.length_append]; exact h6)⟩
            case measure => first | (simp [intOf]; done) | (simp [intOf]; omega)
      · have hlj' : ¬ (j : Int) < 3 := by omega
        have HF3 : Hid (fs.length = 3) := by have := HFL.out; show fs.length = 3; omega
        obtain ⟨g, hga⟩ : ∃ g, sa = some ⟨g, 0, none⟩ := by
          rcases LR.out.st.row.2 with ⟨e1, e2⟩ | ⟨g, cap', cur, e1, _⟩
          · have := HF3.out; omega
          · injection e1 with e1 _ _
            exact ⟨g, e1⟩
        subst hga
        have HOK : Hid (TurnsOk fs 0 true) := full_turns HF3.out LR.out.ok
        have HFU : Hid (∀ f ∈ fs, FullF f) := LR.out.ok
        have hm3 : fs.length ≤ 4611686018427387904 := by have := HF3.out; omega
        have hf3 : ∀ f ∈ fs, f.2.2.length ≤ 4611686018427387904 := fun f hf => by rw [(HFU.out f hf).len]; omega
        have t0 := LR.out.t0
        have t1 := LR.out.t1
        have t2 := LR.out.t2
        have HTB : Hid (turnsB fs 0 true = true) := turns_yes HOK.out
        go_upto_region 15 with (first
          | (go_at_call 32; refine (iTurnsOk_any _ 0 true LR.out.st.fr.fo.fls hm3 hf3).mono ?_; rintro e vT ⟨rfl, hbT⟩; rw [HTB.out]; have LT : Hid (LF w vT lo b3 (.slice (some ⟨g, 0, none⟩) fs.length sc) G fs) := LR.out.next hbT; have t0 := LT.out.t0; have t1 := LT.out.t1; have t2 := LT.out.t2))
        clear LR
        go_upto_region 16 with (first
          | (go_at_call 33; refine (pickN_any cap0 90 (by omega) (by omega) (by omega) (row.mono LT.out.hb)).mono ?_; rintro e vQ ⟨nk, rfl, nk0, nk1, _, hwe⟩; subst hwe; have hwn : IntKind.i64.wrap (1 + nk) = 1 + nk := (by rw [IntKind.wrap_i64]; omega)))
        obtain ⟨n, hn⟩ : ∃ n, 1 + nk = n := ⟨_, rfl⟩
        have hn0 : 1 ≤ n ∧ n ≤ 90 := by omega
        rw [hn]
        clear hwn hn
        obtain ⟨Y, ya, yf, S, hR⟩ : ∃ Y ya yf S, allOf fs 0 true n = (Y, ya, yf, S) := ⟨_, _, _, _, rfl⟩
        have HR : Hid (allOf fs 0 true n = (Y, ya, yf, S)) := hR
        have AS : Hid (AllSum fs (Y, ya, yf, S) (waitTo fs fs.length)) := by
          have h := alls_sum n HOK.out ⟨by omega, by omega⟩
          rw [hR] at h
          exact h
        have HSL : Hid (S.length = 3) := by have h := AS.out.len; show S.length = 3; rw [← HF3.out]; exact h
        have HFB : Hid (∀ i k (hi : i < fs.length) (hk : k < fs.length) (si : i < S.length) (sk : k < S.length), S[i] * fs[k].1 - S[k] * fs[i].1 ≤ fs[i].1 * fs[k].1 + 1500 * (fs[i].1 + fs[k].1)) := by
          have e : allB fs 0 true n = true := by
            unfold allB inB
            rw [HTB.out, decide_eq_true (show 0 ≤ n by omega), decide_eq_true (show n ≤ 3000 by omega)]
            rfl
          have h := (fair_of HOK.out (fun f h => (HFU.out _ (List.getElem_mem h)).len) (fun f h => (HFU.out _ (List.getElem_mem h)).d) n.toNat (by omega)).2
          have e2 : allR n.toNat fs 0 true (List.replicate fs.length 0) = (Y, ya, yf, S) := by
            rw [← hR]
            unfold allOf
            rw [if_pos e]
          rw [e2] at h
          exact h
        have HSB : Hid (∀ i (h : i < S.length), 0 ≤ S[i] ∧ S[i] ≤ 450000) := fun i h => by
          have h1 := AS.out.pos i h
          have h2 := sumTo_most AS.out.pos (show i ≤ S.length by omega)
          have h3 := sumTo_most AS.out.pos (show i + 1 ≤ S.length by omega)
          rw [sumTo_next h] at h3
          have h4 := AS.out.sum
          have h5 := waitTo_in AS.out.ok.flow Y.length (Nat.le_refl _)
          have h6 := waitTo_in HOK.out.flow fs.length (Nat.le_refl _)
          have h7 := HF3.out
          rw [h7] at h6
          rw [h7] at h4
          simp only at h1 h2 h3 h4 h5
          omega
        have HI : Hid (∀ (w : World) (a : Option Addr) (c : Nat), Fls w.heap.size w a fs → Calls Try.prog 24 #[turnV a fs.length c 0 true, .int .i64 n] w (AllQ2 w Y ya yf S)) := fun w a c h => by
          have h' := iAll_any c 0 true n h hm3 hf3
          rw [HR.out] at h'
          exact h'
        have HS : Hid (∀ (w : World) (a : Option Addr) (c : Nat), Fls w.heap.size w a fs → Calls Try.prog 25 #[turnV a fs.length c 0 true, .int .i64 n] w (AllQ w Y ya yf S)) := fun w a c h => by
          have h' := specAll_any c 0 true n h hm3 hf3
          rw [HR.out] at h'
          exact h'
        clear hR
        go_upto_region 17 with (first
          | (go_at_call 24; refine (HI.out _ _ _ LT.out.st.fr.fo.fls).mono ?_; rintro e vI ⟨a8, c8, s9, m9, rfl, tv8, iv9, hbP, _, _⟩; obtain ⟨a9, c9, rfl⟩ := iv_slice iv9; clear tv8))
        obtain ⟨v8, hv⟩ : ∃ v, v = vI.alloc (.cells #[.slice a8 Y.length c8, .int .i64 ya, .bool yf] 48) := ⟨_, rfl⟩
        rw [← hv]
        have hbA : Below vI.heap.size vI v8 := by rw [hv]; exact new_below _ _
        clear hv
        have iv9 := iv9.next hbA
        have LT : Hid (LF w v8 lo b3 (.slice (some ⟨g, 0, none⟩) fs.length sc) G fs) := LT.out.next (below_step hbP hbA)
        clear t0 t1 t2 hbP hbA
        have t0 := LT.out.t0
        have t1 := LT.out.t1
        have t2 := LT.out.t2
        go_upto_region 18 with (first
          | (go_at_call 25; refine (HS.out _ _ _ LT.out.st.fr.fo.fls).mono ?_; rintro e vS ⟨a10, c10, s11, rfl, tv10, iv11, hbP⟩; obtain ⟨a11, c11, rfl⟩ := iv_slice iv11; clear tv10))
        obtain ⟨v10, hv⟩ : ∃ v, v = vS.alloc (.cells #[.slice a10 Y.length c10, .int .i64 ya, .bool yf] 48) := ⟨_, rfl⟩
        rw [← hv]
        have hbA : Below vS.heap.size vS v10 := by rw [hv]; exact new_below _ _
        clear hv
        have iv9 := iv9.next (below_step hbP hbA)
        have iv11 := iv11.next hbA
        have LT : Hid (LF w v10 lo b3 (.slice (some ⟨g, 0, none⟩) fs.length sc) G fs) := LT.out.next (below_step hbP hbA)
        clear t0 t1 t2 hbP hbA
        have hs30 : S.length ≤ 30 := by have := HSL.out; omega
        go_upto_region 20 with (first
          | (go_at_call 27; refine (likeI_any iv9 iv11 (by omega)).mono ?_; rintro e vL ⟨rfl, hbE⟩; rw [same_t]))
        have iv9 := iv9.next hbE
        have LT : Hid (LF w vL lo b3 (.slice (some ⟨g, 0, none⟩) fs.length sc) G fs) := LT.out.next hbE
        have t0 := LT.out.t0
        have is9 := (iv_smp iv9).2
        have hbF := LT.out.hb
        have fo := LT.out.st.fr.fo
        have FO9 : Hid (FO vL lo vL.heap.size g fs.length (G.map (·.2.2)) fs) := fo
        have hfl3 : (fs.length : Int) = 3 := by have := HF3.out; omega
        have HI3 : Hid ((fs.length : Int) = 3) := hfl3
        clear fo hfl3 iv9 iv11 hbE HI HS AS HR
        go_wp2
        go_loopw [12] (fun i wr => ∃ x : Nat, i = .int .i64 x ∧ x ≤ 3 ∧ Hid (Below vL.heap.size vL wr)) (fun i _ => 3 - (intOf i).toNat)
        case atStart => exact ⟨0, rfl, by omega, Below.refl _ _⟩
        case round =>
          obtain ⟨x, rfl, hx, HB1⟩ := hrel
          by_cases hx3 : x < 3
          · have hx3' : (x : Int) < 3 := by omega
            go_wp2
            go_loopw [13] (fun i wr => ∃ y : Nat, i = .int .i64 y ∧ y ≤ 3 ∧ Hid (Below vL.heap.size vL wr)) (fun i _ => 3 - (intOf i).toNat)
            case atStart => exact ⟨0, rfl, by omega, HB1⟩
            case round =>
              clear HB1
              obtain ⟨y, rfl, hy, HB2⟩ := hrel
              by_cases hy3 : y < 3
              · have hy3' : (y : Int) < 3 := by omega
                have hxf : x < fs.length := by have := HF3.out; omega
                have hyf : y < fs.length := by have := HF3.out; omega
                have hxs : x < S.length := by have := HSL.out; omega
                have hys : y < S.length := by have := HSL.out; omega
                have hmap : (G.map (·.2.2)).length = fs.length := FO9.out.len
                have hgz : g < vL.heap.size := FO9.out.g1
                have hb3v : b3 < vL.heap.size := by have := LT.out.z1; have := LT.out.z2; omega
                have t0 := (HB2.out.cell (p := ⟨b3, 0, none⟩) hb3v).trans t0
                have cp := (HB2.out.cell (p := ⟨g, x * 3, none⟩) hgz).trans (FO9.out.got x hxf (by omega)).1
                have cq := (HB2.out.cell (p := ⟨g, y * 3, none⟩) hgz).trans (FO9.out.got y hyf (by omega)).1
                obtain ⟨bs, os, ha9, hbs, dx⟩ := is9 x hxs
                obtain ⟨bs', os', ha9', hbs', dy⟩ := is9 y hys
                rw [ha9] at ha9'
                injection ha9' with ha9'
                injection ha9' with eb eo _
                subst eb eo
                subst ha9
                have dx := (HB2.out.cell (p := ⟨bs, os + x, none⟩) hbs).trans dx
                have dy := (HB2.out.cell (p := ⟨bs, os + y, none⟩) hbs).trans dy
                have hb := HFB.out x y hxf hyf hxs hys
                have fx := HFU.out _ (List.getElem_mem hxf)
                have fy := HFU.out _ (List.getElem_mem hyf)
                have sx := HSB.out x hxs
                have sy := HSB.out y hys
                have p0 := fx.q0
                have p1 := fx.q1
                have q0 := fy.q0
                have q1 := fy.q1
                obtain ⟨p, hp⟩ : ∃ p, fs[x].1 = p := ⟨_, rfl⟩
                obtain ⟨q, hq⟩ : ∃ q, fs[y].1 = q := ⟨_, rfl⟩
                obtain ⟨u, hu⟩ : ∃ u, S[x] = u := ⟨_, rfl⟩
                obtain ⟨v, hv⟩ : ∃ v, S[y] = v := ⟨_, rfl⟩
                rw [hp] at cp hb p0 p1
                rw [hq] at cq hb q0 q1
                rw [hu] at dx hb sx
                rw [hv] at dy hb sy
                clear hp hq hu hv fx fy hmap
                have hxi : (x : Int) < (fs.length : Int) := by omega
                have hyi : (y : Int) < (fs.length : Int) := by omega
                have hxi2 : (x : Int) < (S.length : Int) := by omega
                have hyi2 : (y : Int) < (S.length : Int) := by omega
                have m1 : 0 ≤ u * q ∧ u * q ≤ 450000 * 10000 := ⟨Int.mul_nonneg sx.1 (by omega), Int.mul_le_mul sx.2 q1 (by omega) (by omega)⟩
                have m2 : 0 ≤ v * p ∧ v * p ≤ 450000 * 10000 := ⟨Int.mul_nonneg sy.1 (by omega), Int.mul_le_mul sy.2 p1 (by omega) (by omega)⟩
                have m3 : 0 ≤ p * q ∧ p * q ≤ 10000 * 10000 := ⟨Int.mul_nonneg (by omega) (by omega), Int.mul_le_mul p1 q1 (by omega) (by omega)⟩
                have w1 : IntKind.i64.wrap (u * q) = u * q := by rw [IntKind.wrap_i64]; omega
                have w2 : IntKind.i64.wrap (v * p) = v * p := by rw [IntKind.wrap_i64]; omega
                have w3 : IntKind.i64.wrap (u * q - v * p) = u * q - v * p := by rw [IntKind.wrap_i64]; omega
                have w4 : IntKind.i64.wrap (p * q) = p * q := by rw [IntKind.wrap_i64]; omega
                have w5 : IntKind.i64.wrap (p + q) = p + q := by rw [IntKind.wrap_i64]; omega
                have w6 : IntKind.i64.wrap (1500 * (p + q)) = 1500 * (p + q) := by rw [IntKind.wrap_i64]; omega
                have w7 : IntKind.i64.wrap (p * q + 1500 * (p + q)) = p * q + 1500 * (p + q) := by rw [IntKind.wrap_i64]; omega
                have hgt : ¬ p * q + 1500 * (p + q) < u * q - v * p := by omega
                clear hb m1 m2 m3 sx sy
                go_upto_region 28 with (fail)
                go_quiet (fail)
                go_wp2
                go_roundw
                case rel => exact ⟨y + 1, by go_num, by omega, below_drews HB2.out _⟩
                case measure => first | (simp [intOf]; done) | (simp [intOf]; omega)
              · have hy3' : ¬ (y : Int) < 3 := by omega
                go_wp2
                go_roundw
                case rel => exact ⟨x + 1, by go_num, by omega, HB2⟩
                case measure => first | (simp [intOf]; done) | (simp [intOf]; omega)
          · have hx3' : ¬ (x : Int) < 3 := by omega
            go_wp2
            go_ret
            exact ⟨rfl, below_step hbF HB1.out⟩
  · have hbig : (4096 : Int) < (len0 : Int) := by omega
    go_enter Try.func6, Try.ntmps6
    go_wp2
    go_ret
    exact ⟨rfl, Below.refl _ _⟩

/-! ### THE ROW's STEP: WRITTEN OUT: LEAVE IT -/
set_option maxRecDepth 100000 in
theorem lifted (os : Os) (started : os.Started) (H : Type) (enc : TypeId × Value → H) :
    ReturnsInHanded {} Try.checked os 6 .any (Rows.fnFairSpec.pre6 enc Try.prog Try.f6 Rows.fnFairRow.domain false) (Rows.fnFairSpec.post enc Try.prog Try.f6 false true false false) := by
  refine returnsInHanded_of_change (C := Try.checked) own started (by kernel_rfl) Try.func6
    (ChangeSpec.witness6 (enc := enc) (C := Try.checked) false ⟨#[], #[.slice none 0 0], []⟩ 8 (by kernel_rfl) (by kernel_rfl) (by kernel_rfl) (by kernel_rfl)) ?_
  intro W base args ds gs before hval0 hW hcnd _
  have hval : ∀ (j : Nat) t v, Try.f6.params[j]? = some t → args[j]? = some v → Value.okWide Try.prog W .any base t v := hval0
  have hW' := hW
  obtain ⟨p, q, hA0, hV, rfl, hfz, hnd⟩ := hW
  have hA : DataW.TrodAll enc Try.prog W 0 (fun _ => true) true Try.f6.params.toList args.toList ds p := hA0
  rw [Try.params6] at hA hval
  obtain ⟨v0, vs0, d0, ds0, p0, q0, hargs, rfl, rfl, h0, r0⟩ := trodAll_cons hA
  obtain ⟨rfl, rfl, rfl⟩ := trodAll_nil r0
  obtain rfl : args = #[v0] := by cases args; simp_all
  obtain ⟨rfl, rfl⟩ := trodVars_none hV
  obtain ⟨a0, len0, cap0, rfl⟩ := okWide_slice Try.underlying22 (hval 0 22 v0 rfl rfl)
  have k0 := h0
  have lt0 : ∀ x ∈ p0, x.block < W.heap.size := by obtain ⟨m, hm⟩ := k0; exact DataW.trod_lt m _ _ _ hm
  obtain ⟨z0, w0⟩ : ∃ zs, IsRow .u8 W a0 len0 cap0 zs := by
    obtain ⟨fuel, hf⟩ := h0
    rcases open_ints Try.underlying22 Try.underlying5 (by kernel_rfl) hf with ⟨hcs, _⟩ | ⟨x, l, c, zs, hcs, _, hl, hm, hz, _, hcell, hwz⟩
    · simp [Value.cells] at hcs
      obtain ⟨rfl, rfl, rfl⟩ := hcs
      exact ⟨[], .inl ⟨rfl, rfl, rfl, rfl⟩⟩
    · simp [Value.cells] at hcs
      obtain ⟨rfl, rfl, rfl⟩ := hcs
      exact ⟨zs, .inr ⟨_, rfl, hl, hm, by simpa using hz, hcell, hwz⟩⟩
  clear hA0 hval0
  refine (walk a0 len0 cap0 z0 W w0).mono fun e W' ⟨he, bel⟩ => ?_
  subst he
  exact ⟨_, rfl, _, _, _, [], _, [], hW', trodAll_mk1 (shut_bool Try.underlying4 _), (trodAll_cons_mk (Below.trod laidOut (by kernel_rfl) (of_decide_eq_true (by kernel_rfl)) k0 bel lt0) trodAll_mk0), rfl, bel.frame _, fun h => by cases h⟩

theorem over : Rows.fnFairRow.holds Try.pinned (OpenSpec.ofChange Rows.fnFairSpec) :=
  OpenClaim.holds_of_wide 6 Try.f6 rfl rfl rfl rfl rfl rfl rfl ⟨rfl, rfl, rfl, rfl, rfl⟩ rfl rfl rfl rfl rfl (by kernel_rfl) Try.func6 (by kernel_rfl)
    (of_decide_eq_true (by kernel_rfl)) (by unfold Func.isWrapper; first | (rw [if_pos (by decide +kernel)]; kernel_rfl) | (rw [if_neg (by decide +kernel)]; exact ⟨rfl, rfl⟩))
    (fun os started H enc _ => lifted os started H enc)

/-- ████ THE STATEMENT ████ -/
theorem proved : Rows.FnFairSaid := over
#print axioms proved
end Go.Proofs.Ytdgefdjgpneanad.fnFair
namespace Go.Proofs.Ytdgefdjgpneanad
theorem fnFair_holds : Rows.FnFairSaid := fnFair.proved
#print axioms fnFair_holds
end Go.Proofs.Ytdgefdjgpneanad
