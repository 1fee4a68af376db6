/- spec.DrawQueue. -/
import Derived.Test.YtdgefdjgpneanadDraw8g
import Derived.Test.YtdgefdjgpneanadDrawSize
import Derived.Deep.LoopGhost
namespace Go.Proofs.Ytdgefdjgpneanad
open Go.ChangeShapes Go.WideShapes Go.ChangeAt Go.RowKit
set_option maxRecDepth 100000
set_option linter.unusedVariables false
set_option linter.unusedSimpArgs false

def QuPost (w : World) (e : Ending) (w' : World) : Prop := ∃ ad c fs a f i n, e = .returned (.tuple #[turnV ad fs.length c a f, .int .i64 i, .int .i64 n]) ∧ T8In w w' ad c fs
theorem retQ {ad : Option Addr} {c n : Nat} {fs : List F8} {a : Int} {f : Bool} {i k : Int} (h : fs.length = n) : Ending.returned (.tuple #[turnV ad n c a f, .int .i64 i, .int .i64 k]) = .returned (.tuple #[turnV ad fs.length c a f, .int .i64 i, .int .i64 k]) := by rw [h]
set_option maxHeartbeats 16000000 in
theorem drawQueue_any {B : Nat} {a0 : Option Addr} {len : Nat} (cap : Nat) {w : World} (hs : len ≤ 4096) (row : Row B a0 len w) (hB : B ≤ w.heap.size) :
    Calls Try.prog 34 #[.slice a0 len cap] w (QuPost w) := by
  obtain ⟨i0, hi0, hz0, hz1', hz2⟩ := info_parts info_int
  go_enter Try.func34, Try.ntmps34
  go_upto_region 3 with (first
    | (go_at_call 46; refine (new_any cap hs (row.mono ((Below.refl B w).alloc hB _)) (by simp; omega)).mono ?_; rintro e w1 ⟨b, rfl, hb, k1, hb1⟩; have hb' : w.heap.size < b := (by simp at hb; omega))
    | (go_at_call 77; refine (l8DrawAny_acc k1).mono ?_; rintro e w2 ⟨ad, c, fs, at', fresh, rfl, own2, l4, le, k2, o2⟩))
  obtain ⟨v, hv⟩ : ∃ v, v = w2.alloc (.cells #[.slice ad fs.length c, .int .i64 at', .bool fresh] 48) := ⟨_, rfl⟩
  rw [← hv]
  have D : Hid (R8 B a0 len cap b w v w1.heap.size w2.heap.size ad c fs at' fresh) := by rw [hv]; exact R8.begin hb1 hb' k1 k2 o2 own2 l4 le
  have n3 : w.heap.size ≠ w2.heap.size := by have := D.out.z0; have := D.out.z1; have := D.out.z2; omega
  have n2 : w2.heap.size ≠ w.heap.size := fun e => n3 e.symm
  have j0 := D.out.t0
  have hli : (fs.length : Int) ≤ 4 := by omega
  clear hv own2 k1 k2 o2 hb1 hb
  go_upto_region 4 with (first
    | (go_at_call 62; refine (below_acc _ D.out.cur (Only.refl _ _) (by omega) (by omega)).mono ?_; rintro e w3 ⟨x3, rfl, hx3, k3, o3⟩; have D3 : Hid (R8 B a0 len cap b w w3 w1.heap.size w2.heap.size ad c fs at' fresh) := D.out.draw o3 k3; have j0 := D3.out.t0))
  clear D
  go_upto_if 26 with (first
    | (go_at_call 61; refine (once_acc _ D3.out.cur (Only.refl _ _) (by omega) (by omega)).mono ?_; rintro e w4 ⟨f4, rfl, k4, o4⟩; have D4 : Hid (R8 B a0 len cap b w w4 w1.heap.size w2.heap.size ad c fs at' fresh) := D3.out.draw o4 k4; have j0 := D4.out.t0; cases f4)
    | (cases f4))
  · go_upto_region 11 with (fail)
    have WK : Hid (W8 B a0 len cap b w w4 w1.heap.size w2.heap.size ad fs.length c at' fresh) := D4.out.toW
    have OK8 : Hid (O8 w4 w1.heap.size ad fs.length c fs) := D4.out.toO
    have j0 := WK.out.t0
    have j1 := WK.out.t1
    have j2 := WK.out.t2
    have E : Hid (W8 B a0 len cap b w w4.drew w1.heap.size w2.heap.size ad fs.length c at' fresh) := WK.out.next (Below.refl _ _).drew
    have EO : Hid (O8 w4.drew w1.heap.size ad fs.length c fs) := OK8.out.draw (b := b) (Only.of_below (Below.refl _ _).drew) WK.out.z1
    clear WK OK8
    go_region_held3 (fun w' => w'.cell? ⟨w2.heap.size, 0, none⟩ = some (.slice ad fs.length c) ∧ w'.cell? ⟨w2.heap.size, 1, none⟩ = some (.int .i64 at') ∧ w'.cell? ⟨w2.heap.size, 2, none⟩ = some (.bool fresh)) (go_keep)
      (first | (go_at_call 87; refine (drawSize8_acc E.out.cur (Only.refl _ _)).mono ?_; rintro e w9 ⟨x9, rfl, k9, o9⟩; have D9 : Hid (W8 B a0 len cap b w w9 w1.heap.size w2.heap.size ad fs.length c at' fresh) := E.out.draw o9 k9; have O9 : Hid (O8 w9 w1.heap.size ad fs.length c fs) := EO.out.draw o9 E.out.z1; have q0 := D9.out.r0; have q1 := D9.out.r1; have q2 := D9.out.r2; have qf := D9.out.rf; have j0 := D9.out.t0; have j1 := D9.out.t1; have j2 := D9.out.t2))
    go_wp2
    refine bodyPost_ret (results_tri3 rfl _ _ _ [.slice ad fs.length c, .int .i64 at', .bool fresh] rfl (put3_res (z0 := .slice none 0 0) (z1 := .int .i64 0) (z2 := .bool false) _ _ _ q0 q1 q2) Try.underlying48 rfl (by kernel_rfl)) rfl ?_
    have HT8 := D9.out.out O9.out (.slice ad fs.length c) (.int .i64 at') (.bool fresh)
    have HL8 := O9.out.2.1
    exact ⟨ad, c, fs, at', fresh, x3, x9, rfl, HT8⟩
  · rcases Nat.eq_zero_or_pos fs.length with hf0 | hf0
    · have hf0' : ¬ (fs.length : Int) > 0 := by omega
      have hf0'' : decide ((fs.length : Int) > 0) = false := decide_eq_false hf0'
      go_upto_region 11 with (fail)
      clear hf0 hf0' hf0''
      have WK : Hid (W8 B a0 len cap b w w4 w1.heap.size w2.heap.size ad fs.length c at' fresh) := D4.out.toW
      have OK8 : Hid (O8 w4 w1.heap.size ad fs.length c fs) := D4.out.toO
      have j0 := WK.out.t0
      have j1 := WK.out.t1
      have j2 := WK.out.t2
      have E : Hid (W8 B a0 len cap b w w4.drew w1.heap.size w2.heap.size ad fs.length c at' fresh) := WK.out.next (Below.refl _ _).drew
      have EO : Hid (O8 w4.drew w1.heap.size ad fs.length c fs) := OK8.out.draw (b := b) (Only.of_below (Below.refl _ _).drew) WK.out.z1
      clear WK OK8
      go_region_held3 (fun w' => w'.cell? ⟨w2.heap.size, 0, none⟩ = some (.slice ad fs.length c) ∧ w'.cell? ⟨w2.heap.size, 1, none⟩ = some (.int .i64 at') ∧ w'.cell? ⟨w2.heap.size, 2, none⟩ = some (.bool fresh)) (go_keep)
        (first | (go_at_call 87; refine (drawSize8_acc E.out.cur (Only.refl _ _)).mono ?_; rintro e w9 ⟨x9, rfl, k9, o9⟩; have D9 : Hid (W8 B a0 len cap b w w9 w1.heap.size w2.heap.size ad fs.length c at' fresh) := E.out.draw o9 k9; have O9 : Hid (O8 w9 w1.heap.size ad fs.length c fs) := EO.out.draw o9 E.out.z1; have q0 := D9.out.r0; have q1 := D9.out.r1; have q2 := D9.out.r2; have qf := D9.out.rf; have j0 := D9.out.t0; have j1 := D9.out.t1; have j2 := D9.out.t2))
      go_wp2
      refine bodyPost_ret (results_tri3 rfl _ _ _ [.slice ad fs.length c, .int .i64 at', .bool fresh] rfl (put3_res (z0 := .slice none 0 0) (z1 := .int .i64 0) (z2 := .bool false) _ _ _ q0 q1 q2) Try.underlying48 rfl (by kernel_rfl)) rfl ?_
      have HT8 := D9.out.out O9.out (.slice ad fs.length c) (.int .i64 at') (.bool fresh)
      have HL8 := O9.out.2.1
      exact ⟨ad, c, fs, at', fresh, x3, x9, rfl, HT8⟩
    · have hf0' : (fs.length : Int) > 0 := by omega
      obtain ⟨g, vs, had, hcp, fo⟩ : ∃ g vs, ad = some ⟨g, 0, none⟩ ∧ fs.length ≤ c ∧ FO w4 w1.heap.size w2.heap.size g fs.length vs fs := by
        rcases D4.out.own with e | h
        · rw [e] at hf0; simp at hf0
        · exact h
      subst had
      obtain ⟨n, hn⟩ : ∃ n, fs.length = n := ⟨_, rfl⟩
      have WK4 : Hid (W8 B a0 len cap b w w4 w1.heap.size w2.heap.size (some ⟨g, 0, none⟩) n c at' fresh) := by have h := D4.out.toW; rw [hn] at h; exact h
      have hvl := fo.len
      have gg1 := fo.g1
      have gg0 := fo.g0
      have hT4 := D4.out.z3
      have hbz := D4.out.z1
      have hbw := D4.out.z0
      have hzg : (⟨g, 2, none⟩ : Addr).block < w4.heap.size := by show g < _; omega
      have hg2 := (fo.got 0 hf0 (by omega)).2.2
      have hgf := (fo.any 2 (by omega)).2
      have fo' : FO w4 w1.heap.size w2.heap.size g n vs fs := by rw [← hn]; exact fo
      obtain ⟨vs6, fs6, Q6⟩ := Q8.begin (c := c) fo' hT4 hn hf0 l4 (by omega) D4.out.le
      have QB : Hid (Q8 ((w4.alloc (.cells #[] 2)).setCell ⟨g, 2, none⟩ (.slice (some ⟨w4.heap.size, 0, none⟩) 0 0)) w1.heap.size w2.heap.size w4.heap.size g n c vs6 fs6 (.slice (some ⟨w4.heap.size, 0, none⟩) 0 0) []) := Q6
      have WB : Hid (W8 B a0 len cap b w ((w4.alloc (.cells #[] 2)).setCell ⟨g, 2, none⟩ (.slice (some ⟨w4.heap.size, 0, none⟩) 0 0)) w1.heap.size w2.heap.size (some ⟨g, 0, none⟩) n c at' fresh) := by
        have W5 := WK4.out.next (newB w4 (.cells #[] 2))
        have os : Only g (w4.alloc (.cells #[] 2)) ((w4.alloc (.cells #[] 2)).setCell ⟨g, 2, none⟩ (.slice (some ⟨w4.heap.size, 0, none⟩) 0 0)) := (Only.refl g _).setCell (p := ⟨g, 2, none⟩) rfl _
        have hkl := W5.cur.lo
        exact W5.keep os.size (cur_onlyX W5.cur os (.inr ⟨by omega, by omega⟩)) (W5.hb.trans (os.below (by omega) W5.hb.size)) (os.block _ (by simp; omega) (by omega)) (os.block _ (by simp; omega) (by omega))
      rw [hn] at j0 ⊢
      clear Q6 D4 D3 k3 o3 k4 o4 hx3
      rw [show (0 : Nat) * 3 + 2 = 2 from rfl] at hg2
      have hn0 : (0 : Int) < (n : Int) := by omega
      have hn0' : 0 < n := by omega
      have hsw : ((w4.alloc (.cells #[] 2)).setCell ⟨g, 2, none⟩ (.slice (some ⟨w4.heap.size, 0, none⟩) 0 0)) = (w4.setCell ⟨g, 2, none⟩ (.slice (some ⟨w4.heap.size, 0, none⟩) 0 0)).alloc (.cells #[] 2) := by go_simp
      rw [hsw] at QB WB
      clear hsw
      go_upto_region 7 with (fail)
      obtain ⟨v6, hv6⟩ : ∃ v, v = (w4.setCell ⟨g, 2, none⟩ (.slice (some ⟨w4.heap.size, 0, none⟩) 0 0)).alloc (.cells #[] 2) := ⟨_, rfl⟩
      rw [← hv6] at QB WB ⊢
      rw [show decide (0 < n) = true from decide_eq_true hn0']
      obtain ⟨mk, hmk⟩ : ∃ m, m = w4.heap.size := ⟨_, rfl⟩
      rw [← hmk] at QB ⊢
      clear hv6 hmk hg2 hgf hzg j0 hT4 WK4 fo fo'
      go_wp2
      go_loopw [8] (fun s wr => ∃ (k : Nat) (sv : Option Addr) (cv : Nat) (xs : List Int) (vs' : List Value) (fs' : List F8), s = .int .i64 k ∧ k ≤ 100 ∧ Hid (xs.length = k) ∧ Hid (W8 B a0 len cap b w wr w1.heap.size w2.heap.size (some ⟨g, 0, none⟩) n c at' fresh) ∧ Hid (Q8 wr w1.heap.size w2.heap.size mk g n c vs' fs' (.slice sv xs.length cv) xs)) (fun s _ => 100 - (intOf s).toNat)
      case atStart => exact ⟨0, some ⟨mk, 0, none⟩, 0, [], vs6, fs6, rfl, by omega, rfl, WB, QB⟩
      case round =>
        clear WB QB
        obtain ⟨k, sv, cv, xs, vs', fs', rfl, hk, HXL, WR, QR⟩ := hrel
        have j0 := WR.out.t0
        go_upto_if 36 with (first
          | (go_at_call 62; refine (below_acc 2 WR.out.cur (Only.refl _ _) (by omega) (by omega)).mono ?_; rintro e w8 ⟨x8, rfl, hx8, k8, o8⟩; have WK : Hid (W8 B a0 len cap b w w8 w1.heap.size w2.heap.size (some ⟨g, 0, none⟩) n c at' fresh) := WR.out.draw o8 k8; have QK : Hid (Q8 w8 w1.heap.size w2.heap.size mk g n c vs' fs' (.slice sv xs.length cv) xs) := QR.out.draw o8 hbz; have hw8 : IntKind.i64.wrap (100 - x8) = 100 - x8 := (by rw [IntKind.wrap_i64]; omega)))
        have hz8 := WK.out.z3
        clear WR QR k8 o8 j0
        by_cases hlt : (k : Int) < 100 - x8
        · have hxl : xs.length ≤ 100 := by have := HXL.out; omega
          have hc2 := QK.out.c2
          have hfz := QK.out.f2
          have hgz : g < w8.heap.size := by omega
          have hgm : g < mk := by have := QK.out.m1; omega
          have hmT := QK.out.m1
          have hmz := QK.out.m2
          have hk99 : k < 100 := by omega
          go_upto_region 10 with (fail)
          refine region_late (S := fun w' => w'.cell? ⟨w2.heap.size, 0, none⟩ = some (.slice (some ⟨g, 0, none⟩) n c) ∧ w'.cell? ⟨g, 2, none⟩ = some (.slice sv xs.length cv)) 11 (by kernel_rfl) (⟨WK.out.t0, hc2⟩) (fun hS => ?_)
          refine late_take (i := 0) (v := ?_) rfl (by kernel_rfl) (by kernel_rfl) (by kernel_rfl) (by kernel_rfl) (fun _ _ _ h => h) (Or.inl ⟨by rfl, ?_⟩) (by assumption) ?_
          rotate_left 1
          · (intro w' hSw; (try dsimp only at hSw); go_simp; try with_reducible rfl)
          try simp only [Act.put, List.setIfInBounds_toArray, List.set_cons_zero, List.set_cons_succ, List.getElem_toArray, List.getElem_cons_succ, List.getElem_cons_zero]
          refine late_take (i := 1) (v := ?_) rfl (by kernel_rfl) (by kernel_rfl) (by kernel_rfl) (by kernel_rfl) (fun _ _ _ h => h) (Or.inl ⟨by rfl, ?_⟩) (by assumption) ?_
          rotate_left 1
          · (intro w' hSw; (try dsimp only at hSw); go_simp; try with_reducible rfl)
          try simp only [Act.put, List.setIfInBounds_toArray, List.set_cons_zero, List.set_cons_succ, List.getElem_toArray, List.getElem_cons_succ, List.getElem_cons_zero]
          refine late_take (i := 2) (v := ?_) rfl (by kernel_rfl) (by kernel_rfl) (by kernel_rfl) (by kernel_rfl) (fun _ _ _ h => h) (Or.inl ⟨by rfl, ?_⟩) (by assumption) ?_
          rotate_left 1
          · (intro w' hSw; (try dsimp only at hSw); go_simp; try with_reducible rfl)
          try simp only [Act.put, List.setIfInBounds_toArray, List.set_cons_zero, List.set_cons_succ, List.getElem_toArray, List.getElem_cons_succ, List.getElem_cons_zero]
          refine late_take (i := 3) (v := ?_) rfl (by kernel_rfl) (by kernel_rfl) (by kernel_rfl) (by kernel_rfl) (fun _ _ _ h => h) (Or.inl ⟨by rfl, ?_⟩) (by assumption) ?_
          rotate_left 1
          · (intro w' hSw; (try dsimp only at hSw); go_simp; try with_reducible rfl)
          try simp only [Act.put, List.setIfInBounds_toArray, List.set_cons_zero, List.set_cons_succ, List.getElem_toArray, List.getElem_cons_succ, List.getElem_cons_zero]
          refine late_take (i := 4) (v := ?_) rfl (by kernel_rfl) (by kernel_rfl) (by kernel_rfl) (by kernel_rfl) (fun _ _ _ h => h) (Or.inl ⟨by rfl, ?_⟩) (by assumption) ?_
          rotate_left 1
          · (intro w' hSw; (try dsimp only at hSw); go_simp; try with_reducible rfl)
          try simp only [Act.put, List.setIfInBounds_toArray, List.set_cons_zero, List.set_cons_succ, List.getElem_toArray, List.getElem_cons_succ, List.getElem_cons_zero]
          refine late_take (i := 5) (v := ?_) rfl (by kernel_rfl) (by kernel_rfl) (by kernel_rfl) (by kernel_rfl) (fun _ _ _ h => h) (Or.inl ⟨by rfl, ?_⟩) (by assumption) ?_
          rotate_left 1
          · (intro w' hSw; (try dsimp only at hSw); go_simp; try with_reducible rfl)
          try simp only [Act.put, List.setIfInBounds_toArray, List.set_cons_zero, List.set_cons_succ, List.getElem_toArray, List.getElem_cons_succ, List.getElem_cons_zero]
          refine late_take (i := 6) (v := ?_) rfl (by kernel_rfl) (by kernel_rfl) (by kernel_rfl) (by kernel_rfl) (fun _ _ _ h => h) (Or.inl ⟨by rfl, ?_⟩) (by assumption) ?_
          rotate_left 1
          · (intro w' hSw; (try dsimp only at hSw); go_simp; try with_reducible rfl)
          try simp only [Act.put, List.setIfInBounds_toArray, List.set_cons_zero, List.set_cons_succ, List.getElem_toArray, List.getElem_cons_succ, List.getElem_cons_zero]
          refine late_one (i := 7) (by kernel_rfl) rfl (fun K hK => ?_)
          go_simp
          have nb8 : Below w8.heap.size w8 (w8.drew.alloc (.cells #[.int .i64 9] 2)) := (Below.refl w8.heap.size w8).drew.trans (newB w8.drew (.cells #[.int .i64 9] 2))
          refine hK.out _ _ ⟨(nb8.cell (p := ⟨w2.heap.size, 0, none⟩) WK.out.z3).trans WK.out.t0, (nb8.cell (p := ⟨g, 2, none⟩) hgz).trans hc2⟩ (fun hS => ?_)
          try simp only [Act.put, List.setIfInBounds_toArray, List.set_cons_zero, List.set_cons_succ, List.getElem_toArray, List.getElem_cons_succ, List.getElem_cons_zero]
          refine late_one (i := 8) (by kernel_rfl) rfl (fun K hK => ?_)
          rw [if_pos (by rfl)]
          refine wp_append_two _ _ _ 51 rfl mk 2 i0 _ 1 8 Try.underlying51 hi0 hz0 hz1' hz2 rfl (by decide) _ _ _ rfl (row_next QK.out.row nb8) ⟨w8.drew.heap.size, 0, none⟩ 1 1 [.int .i64 9] rfl rfl (one_news (by go_simp)) (fun u hu => by rw [List.mem_singleton] at hu; subst hu; rfl) (by unfold maxLen; omega) (by omega) (by simp; omega) (by decide) ?_
          intro v' w6 own6 gr6 two6
          obtain ⟨fa, fc, rfl⟩ := own_slice own6
          obtain ⟨vs9, fs9, Q9⟩ := QK.out.app hxl nb8 own6 gr6 two6
          have QN : Hid (Q8 (w6.setCell ⟨g, 2, none⟩ (.slice fa (xs.length + 1) fc)) w1.heap.size w2.heap.size mk g n c vs9 fs9 (.slice fa (xs.length + 1) fc) (xs ++ [9])) := Q9
          have WN : Hid (W8 B a0 len cap b w (w6.setCell ⟨g, 2, none⟩ (.slice fa (xs.length + 1) fc)) w1.heap.size w2.heap.size (some ⟨g, 0, none⟩) n c at' fresh) := WK.out.app QK.out nb8 gr6
          have hlow : ∀ y, y < mk → y < w8.heap.size → w6.heap[y]? = w8.heap[y]? := fun y h1 h2 => (gr6.block y (by simp; omega) (fun e' => by have := (QK.out.row.lt y e'.symm).1; omega)).trans (nb8.block y h2)
          have u0 : w6.cell? ⟨w2.heap.size, 0, none⟩ = some (.slice (some ⟨g, 0, none⟩) n c) := (World.cell?_of_block (a := ⟨w2.heap.size, 0, none⟩) (hlow _ QK.out.m1 WK.out.z3)).trans WK.out.t0
          have u2 : w6.cell? ⟨g, 2, none⟩ = some (.slice sv xs.length cv) := (World.cell?_of_block (a := ⟨g, 2, none⟩) (hlow g hgm hgz)).trans hc2
          have uf : w6.frozen? ⟨g, 2, none⟩ = false := (World.frozen?_of_block (a := ⟨g, 2, none⟩) (hlow g hgm hgz)).trans hfz
          clear Q9 own6 gr6 two6 hlow
          refine hK.out _ _ ⟨u0, u2⟩ (fun hS => ?_)
          try simp only [Act.put, List.setIfInBounds_toArray, List.set_cons_zero, List.set_cons_succ, List.getElem_toArray, List.getElem_cons_succ, List.getElem_cons_zero]
          refine late_one (i := 9) (by kernel_rfl) rfl (fun K hK => ?_)
          go_simp
          refine hK.out _ _ (by assumption) (fun _ => ?_)
          try simp only [Act.put, List.setIfInBounds_toArray, List.set_cons_zero, List.set_cons_succ, List.getElem_toArray, List.getElem_cons_succ, List.getElem_cons_zero]
          refine late_one (i := 10) (by kernel_rfl) rfl (fun K hK => ?_)
          go_simp
          refine hK.out _ _ (by assumption) (fun _ => ?_)
          try simp only [Act.put, List.setIfInBounds_toArray, List.set_cons_zero, List.set_cons_succ, List.getElem_toArray, List.getElem_cons_succ, List.getElem_cons_zero]
          refine late_last (by kernel_rfl) rfl (by kernel_rfl) (fun K hK => ?_)
          go_simp
          refine hK.out _ _ ?_
          try simp only [Act.put, List.setIfInBounds_toArray, List.set_cons_zero, List.set_cons_succ, List.getElem_toArray, List.getElem_cons_succ, List.getElem_cons_zero]
          go_wp2
          go_roundw
          case rel => exact ⟨k + 1, fa, fc, xs ++ [9], vs9, fs9, by go_num, by omega, by show (xs ++ [9]).length = k + 1; rw [List.length_append, HXL.out]; rfl, WN, by (show Q8 _ _ _ _ _ _ _ _ _ (.slice fa (xs ++ [9]).length fc) (xs ++ [9]); rw [List.length_append]; exact QN.out)⟩
          case measure => first | (simp [intOf]; done) | (simp [intOf]; omega)
        · go_upto_region 11 with (fail)
          clear hlt hx8 hw8 hk
          have OK8 : Hid (O8 w8 w1.heap.size (some ⟨g, 0, none⟩) n c fs') := QK.out.toO
          clear QK
          have j0 := WK.out.t0
          have j1 := WK.out.t1
          have j2 := WK.out.t2
          have E : Hid (W8 B a0 len cap b w w8.drew w1.heap.size w2.heap.size (some ⟨g, 0, none⟩) n c at' fresh) := WK.out.next (Below.refl _ _).drew
          have EO : Hid (O8 w8.drew w1.heap.size (some ⟨g, 0, none⟩) n c fs') := OK8.out.draw (b := b) (Only.of_below (Below.refl _ _).drew) WK.out.z1
          clear WK OK8
          go_region_held3 (fun w' => w'.cell? ⟨w2.heap.size, 0, none⟩ = some (.slice (some ⟨g, 0, none⟩) n c) ∧ w'.cell? ⟨w2.heap.size, 1, none⟩ = some (.int .i64 at') ∧ w'.cell? ⟨w2.heap.size, 2, none⟩ = some (.bool fresh)) (go_keep)
            (first | (go_at_call 87; refine (drawSize8_acc E.out.cur (Only.refl _ _)).mono ?_; rintro e w9 ⟨x9, rfl, k9, o9⟩; have D9 : Hid (W8 B a0 len cap b w w9 w1.heap.size w2.heap.size (some ⟨g, 0, none⟩) n c at' fresh) := E.out.draw o9 k9; have O9 : Hid (O8 w9 w1.heap.size (some ⟨g, 0, none⟩) n c fs') := EO.out.draw o9 E.out.z1; have q0 := D9.out.r0; have q1 := D9.out.r1; have q2 := D9.out.r2; have qf := D9.out.rf; have j0 := D9.out.t0; have j1 := D9.out.t1; have j2 := D9.out.t2))
          go_wp2
          refine bodyPost_ret (results_tri3 rfl _ _ _ [.slice (some ⟨g, 0, none⟩) n c, .int .i64 at', .bool fresh] rfl (put3_res (z0 := .slice none 0 0) (z1 := .int .i64 0) (z2 := .bool false) _ _ _ q0 q1 q2) Try.underlying48 rfl (by kernel_rfl)) rfl ?_
          have HT8 := D9.out.out O9.out (.slice (some ⟨g, 0, none⟩) n c) (.int .i64 at') (.bool fresh)
          have HL8 := O9.out.2.1
          exact ⟨(some ⟨g, 0, none⟩), c, fs', at', fresh, 0, x9, congrArg (fun z => Ending.returned (.tuple #[turnV (some ⟨g, 0, none⟩) z c at' fresh, .int .i64 0, .int .i64 x9])) HL8.symm, HT8⟩
end Go.Proofs.Ytdgefdjgpneanad
