/- What impl.copiedTurns answers. -/
import Derived.Test.YtdgefdjgpneanadFlwCp
import Derived.Test.YtdgefdjgpneanadLate
import Derived.Test.YtdgefdjgpneanadTurnMath
import Derived.Deep.RegionHeld3
import Derived.Deep.DeepCutAuto
namespace Go.Proofs.Ytdgefdjgpneanad
open Go.ChangeShapes Go.WideShapes Go.ChangeAt Go.RowKit
set_option maxRecDepth 100000
set_option linter.unusedVariables false
set_option linter.unusedSimpArgs false

theorem undrewC {w w' : World} (h : Below w.drew.heap.size w.drew w') : Below w.heap.size w w' := (Below.refl _ _).drew.trans h
theorem put3_at {w : World} {g : Nat} (a b c : Value) {z0 z1 z2 : Value} (h0 : w.cell? ⟨g, 0, none⟩ = some z0) (h1 : w.cell? ⟨g, 1, none⟩ = some z1) (h2 : w.cell? ⟨g, 2, none⟩ = some z2) :
    ∀ j v, [a, b, c][j]? = some v → (((w.setCell ⟨g, 0, none⟩ a).setCell ⟨g, 1, none⟩ b).setCell ⟨g, 2, none⟩ c).cell? ⟨g, j, none⟩ = some v := by
  have h := put3_same (o := 0) a b c h0 h1 h2
  intro j v hv
  match j, hv with
  | 0, hv => obtain rfl : a = v := by simpa using hv
             exact h.1
  | 1, hv => obtain rfl : b = v := by simpa using hv
             exact h.2.1
  | 2, hv => obtain rfl : c = v := by simpa using hv
             exact h.2.2
/-- Flows that are not copied yet. -/
def Rest (w : World) (g k : Nat) (G : List G8) : Prop := ∀ i (h : i < G.length), k ≤ i → w.cell? ⟨g, i * 3, none⟩ = some (.int .i64 G[i].1) ∧ w.cell? ⟨g, i * 3 + 1, none⟩ = some (.int .i64 G[i].2.1) ∧ w.cell? ⟨g, i * 3 + 2, none⟩ = some G[i].2.2
set_option maxHeartbeats 8000000 in
theorem copied_any {w : World} {a : Option Addr} (c : Nat) {fs : List F8} (at' : Int) (fresh : Bool) (h : Fls w.heap.size w a fs) (h0 : 0 < fs.length) (hl : fs.length ≤ 1048576) (hs : ∀ f ∈ fs, f.2.2.length ≤ 1048576) :
    Calls Try.prog 79 #[turnV a fs.length c at' fresh] w (CpPost8 w fs at' fresh) := by
  obtain ⟨v, hv⟩ : ∃ v, v = (w.alloc (.cells #[.slice a fs.length c, .int .i64 at', .bool fresh] 48)).alloc (.cells #[.slice none 0 0, .int .i64 0, .bool false] 48) := ⟨_, rfl⟩
  have KV : Hid (Kept w [(w.heap.size, 0, .slice a fs.length c), (w.heap.size, 1, .int .i64 at'), (w.heap.size, 2, .bool fresh), (w.heap.size + 1, 0, .slice none 0 0), (w.heap.size + 1, 1, .int .i64 0), (w.heap.size + 1, 2, .bool false)] [w.heap.size, w.heap.size + 1] v) := by
    rw [hv]
    refine ⟨⟨⟨by simp <;> omega, by go_simp⟩, ⟨by simp <;> omega, by go_simp⟩, ⟨by simp <;> omega, by go_simp⟩, ⟨by simp, by go_simp⟩, ⟨by simp, by go_simp⟩, ⟨by simp, by go_simp⟩, trivial⟩, fun b hb => ?_, by go_grown⟩
    simp only [List.mem_cons, List.not_mem_nil, or_false] at hb
    rcases hb with rfl | rfl
    · exact ⟨by simp <;> omega, fun o => by go_simp⟩
    · exact ⟨by simp, fun o => by go_simp⟩
  have hvz : v.heap.size = w.heap.size + 2 := by rw [hv]; simp
  have hli : (fs.length : Int) ≤ 1048576 := by omega
  go_enter Try.func79, Try.ntmps79
  go_upto_region 1 with (fail)
  rw [← hv]
  clear hv
  have ⟨⟨z0, k0⟩, ⟨z1, k1⟩, ⟨z2, k2⟩, ⟨z3, k3⟩, ⟨z4, k4⟩, ⟨z5, k5⟩, _⟩ := KV.out.cells
  go_upto_region 2 with (first | (go_at_call 120; refine (cloneF_any c (h.mono KV.out.hb) (by omega) h0 hl).mono ?_; rintro e w2 ⟨g, cap, G, rfl, hV, own2, hb2⟩; have K2 : Hid (Kept w [(w.heap.size, 0, .slice a fs.length c), (w.heap.size, 1, .int .i64 at'), (w.heap.size, 2, .bool fresh), (w.heap.size + 1, 0, .slice none 0 0), (w.heap.size + 1, 1, .int .i64 0), (w.heap.size + 1, 2, .bool false)] [w.heap.size, w.heap.size + 1] w2) := KV.out.next hb2; have ⟨⟨j0, l0⟩, ⟨j1, l1⟩, ⟨j2, l2⟩, ⟨j3, l3⟩, ⟨j4, l4⟩, ⟨j5, l5⟩, _⟩ := K2.out.cells; have fr0 := (K2.out.free w.heap.size (by simp)).2))
  have hg2 := own2.lt g rfl
  have hgl := hV.len
  have hz2 := hb2.size
  obtain ⟨v3, hv3⟩ : ∃ v3, v3 = w2.setCell ⟨w.heap.size, 0, none⟩ (.slice (some ⟨g, 0, none⟩) fs.length cap) := ⟨_, rfl⟩
  rw [← hv3]
  have KK : Hid (Kept w [(w.heap.size, 0, .slice (some ⟨g, 0, none⟩) fs.length cap), (w.heap.size, 1, .int .i64 at'), (w.heap.size, 2, .bool fresh), (w.heap.size + 1, 0, .slice none 0 0), (w.heap.size + 1, 1, .int .i64 0), (w.heap.size + 1, 2, .bool false)] [w.heap.size + 1] v3) := by
    have kp := K2.out.put w.heap.size 0 (.slice (some ⟨g, 0, none⟩) fs.length cap) (Nat.le_refl _)
    rw [← hv3] at kp
    refine ⟨?_, fun b hb => kp.free b (by simp only [List.mem_cons, List.not_mem_nil, or_false] at hb ⊢; exact .inr hb), kp.hb⟩
    have ⟨e0, e1, e2, e3, e4, e5, _⟩ := kp.cells
    simp at e0 e1 e2 e3 e4 e5
    exact ⟨e0, e1, e2, e3, e4, e5, trivial⟩
  have own3 : v3.ownsRow v.heap.size 61 3 (.slice (some ⟨g, 0, none⟩) fs.length cap) fs.length (flatF G) := by rw [hv3]; exact row_set own2 (by omega)
  have hb2' : Below w.heap.size v w2 := hb2.mono (by omega)
  have hbv : Below w.heap.size v v3 := by rw [hv3]; exact hb2'.setCell (Nat.le_refl _) _
  have HV : Hid (Vals w.heap.size v3 G fs) := hV.mono hbv
  have hcap : fs.length ≤ cap := by
    rcases own2.2 with ⟨e, _⟩ | ⟨g', cap', cur, e, _, _, hnc, _⟩
    · injection e with e; cases e
    · injection e with e1 e2 e3
      subst e3
      exact hnc
  have FB : FR v3 v.heap.size v3.heap.size g fs.length [] (fs.take 0) := FR.begin own3
  have RB : Rest v3 g 0 G := fun i hi _ => by
    obtain ⟨e0, e1, e2⟩ := flatF_get G i hi
    exact ⟨(own3.cellAt _ (by omega)).trans e0, (own3.cellAt _ (by omega)).trans e1, (own3.cellAt _ (by omega)).trans e2⟩
  have HG : Hid (∀ i (h1 : i < fs.length) (h2 : i < G.length), G[i].1 = fs[i].1 ∧ G[i].2.1 = fs[i].2.1 ∧ SzV w.heap.size v3 G[i].2.2 fs[i].2.2) := HV.out.at'
  clear hv3 own2 own3 hV HV K2 k0 k1 k2 k3 k4 k5 z0 z1 z2 z3 z4 z5 l0 l1 l2 l3 l4 l5 j0 j1 j2 j3 j4 j5 fr0 KV
  have ⟨⟨z0, k0⟩, ⟨z1, k1⟩, ⟨z2, k2⟩, ⟨z3, k3⟩, ⟨z4, k4⟩, ⟨z5, k5⟩, _⟩ := KK.out.cells
  go_upto_region 3 with (fail)
  clear k0 k1 k2 k3 k4 k5 z0 z1 z2 z3 z4 z5
  go_loopw [11] (fun i wr => ∃ (k : Nat) (vs : List Value), i = .int .i64 k ∧ k ≤ fs.length ∧ FR wr v.heap.size wr.heap.size g fs.length vs (fs.take k) ∧ Rest wr g k G ∧ Below w.heap.size v3 wr ∧ Kept w [(w.heap.size, 0, .slice (some ⟨g, 0, none⟩) fs.length cap), (w.heap.size, 1, .int .i64 at'), (w.heap.size, 2, .bool fresh), (w.heap.size + 1, 0, .slice none 0 0), (w.heap.size + 1, 1, .int .i64 0), (w.heap.size + 1, 2, .bool false)] [w.heap.size + 1] wr) (fun i _ => fs.length - (intOf i).toNat)
  case atStart => exact ⟨0, [], rfl, by omega, FB, RB, Below.refl _ _, KK.out⟩
  case round =>
    clear FB RB KK
    obtain ⟨k, vs, rfl, hk, f, rest, hbr, kp⟩ := hrel
    have KR : Hid (Kept w [(w.heap.size, 0, .slice (some ⟨g, 0, none⟩) fs.length cap), (w.heap.size, 1, .int .i64 at'), (w.heap.size, 2, .bool fresh), (w.heap.size + 1, 0, .slice none 0 0), (w.heap.size + 1, 1, .int .i64 0), (w.heap.size + 1, 2, .bool false)] [w.heap.size + 1] wr) := kp
    have ⟨⟨z0, k0⟩, ⟨z1, k1⟩, ⟨z2, k2⟩, ⟨z3, k3⟩, ⟨z4, k4⟩, ⟨z5, k5⟩, _⟩ := kp.cells
    have fr1 := (kp.free (w.heap.size + 1) (by simp)).2
    clear kp
    by_cases hlt : k < fs.length
    · have hlt' : (k : Int) < (fs.length : Int) := by omega
      obtain ⟨d0, d1, d2⟩ := rest k (by omega) (Nat.le_refl _)
      obtain ⟨e0, e1, sa, sc, e2, sm⟩ := HG.out k hlt (by omega)
      have hxl := hs _ (List.getElem_mem hlt)
      rw [e0] at d0
      rw [e1] at d1
      rw [e2] at d2
      have HT : Hid (fs.take (k + 1) = fs.take k ++ [fs[k]]) := List.take_succ_eq_append_getElem hlt
      obtain ⟨q, d, xs, hx⟩ : ∃ q d xs, fs[k] = (q, d, xs) := ⟨_, _, _, rfl⟩
      rw [hx] at d0 d1 d2 sm hxl HT
      simp only at d0 d1 d2 sm hxl
      clear hx e0 e1 e2
      have hlen : (fs.take k).length = k := by rw [List.length_take]; omega
      have hgw := f.fo.g1
      have HSM : Hid (ISmp wr.heap.size wr sa xs) := (sm.mono hbr).up KR.out.hb.size
      have HS : Hid (∀ w', Below wr.heap.size wr w' → (fun w' => w'.cell? ⟨w.heap.size, 0, none⟩ = some (.slice (some ⟨g, 0, none⟩) fs.length cap) ∧ w'.cell? ⟨g, k * 3 + 2, none⟩ = some (.slice sa xs.length sc)) w') := fun w' hw => ⟨(hw.cell (p := ⟨w.heap.size, 0, none⟩) z0).trans k0, (hw.cell (p := ⟨g, k * 3 + 2, none⟩) hgw).trans d2⟩
      have HFZ : Hid (∀ w', Below wr.heap.size wr w' → w'.frozen? ⟨g, k * 3 + 2, none⟩ = false) := fun w' hw => (hw.frozen (p := ⟨g, k * 3 + 2, none⟩) hgw).trans (f.fo.any _ (by omega)).2
      have HF : Hid (FR wr v.heap.size wr.heap.size g fs.length vs (fs.take k)) := f
      have HR : Hid (Rest wr g k G) := rest
      have HD0 : Hid (wr.cell? ⟨g, k * 3, none⟩ = some (.int .i64 q)) := d0
      have HD1 : Hid (wr.cell? ⟨g, k * 3 + 1, none⟩ = some (.int .i64 d)) := d1
      clear f rest d0 d1 sm k1 k2 k3 k4 k5
      go_upto_region 5 with (fail)
      refine region_late (S := fun w' => w'.cell? ⟨w.heap.size, 0, none⟩ = some (.slice (some ⟨g, 0, none⟩) fs.length cap) ∧ w'.cell? ⟨g, k * 3 + 2, none⟩ = some (.slice sa xs.length sc)) 12 (by kernel_rfl) (HS.out _ (Below.refl _ _).drew) (fun hS => ?_)
      refine late_take (i := 0) (v := ?_) rfl (by kernel_rfl) (by kernel_rfl) (by kernel_rfl) (by kernel_rfl) (fun _ _ _ h => h) (Or.inl ⟨by rfl, ?_⟩) (by assumption) ?_
      rotate_left 1
      · (intro w' hSw; (try dsimp only at hSw); go_simp; try with_reducible rfl)
      try simp only [Act.put, List.setIfInBounds_toArray, List.set_cons_zero, List.set_cons_succ, List.getElem_toArray, List.getElem_cons_succ, List.getElem_cons_zero]
      refine late_take (i := 1) (v := ?_) rfl (by kernel_rfl) (by kernel_rfl) (by kernel_rfl) (by kernel_rfl) (fun _ _ _ h => h) (Or.inl ⟨by rfl, ?_⟩) (by assumption) ?_
      rotate_left 1
      · (intro w' hSw; (try dsimp only at hSw); go_simp; try with_reducible rfl)
      try simp only [Act.put, List.setIfInBounds_toArray, List.set_cons_zero, List.set_cons_succ, List.getElem_toArray, List.getElem_cons_succ, List.getElem_cons_zero]
      refine late_take (i := 2) (v := ?_) rfl (by kernel_rfl) (by kernel_rfl) (by kernel_rfl) (by kernel_rfl) (fun _ _ _ h => h) (Or.inl ⟨by rfl, ?_⟩) (by assumption) ?_
      rotate_left 1
      · (intro w' hSw; (try dsimp only at hSw); go_simp; try with_reducible rfl)
      try simp only [Act.put, List.setIfInBounds_toArray, List.set_cons_zero, List.set_cons_succ, List.getElem_toArray, List.getElem_cons_succ, List.getElem_cons_zero]
      refine late_take (i := 3) (v := ?_) rfl (by kernel_rfl) (by kernel_rfl) (by kernel_rfl) (by kernel_rfl) (fun _ _ _ h => h) (Or.inl ⟨by rfl, ?_⟩) (by assumption) ?_
      rotate_left 1
      · (intro w' hSw; (try dsimp only at hSw); go_simp; try with_reducible rfl)
      try simp only [Act.put, List.setIfInBounds_toArray, List.set_cons_zero, List.set_cons_succ, List.getElem_toArray, List.getElem_cons_succ, List.getElem_cons_zero]
      refine late_take (i := 4) (v := ?_) rfl (by kernel_rfl) (by kernel_rfl) (by kernel_rfl) (by kernel_rfl) (fun _ _ _ h => h) (Or.inl ⟨by rfl, ?_⟩) (by assumption) ?_
      rotate_left 1
      · (intro w' hSw; (try dsimp only at hSw); go_simp; try with_reducible rfl)
      try simp only [Act.put, List.setIfInBounds_toArray, List.set_cons_zero, List.set_cons_succ, List.getElem_toArray, List.getElem_cons_succ, List.getElem_cons_zero]
      refine late_take (i := 5) (v := ?_) rfl (by kernel_rfl) (by kernel_rfl) (by kernel_rfl) (by kernel_rfl) (fun _ _ _ h => h) (Or.inl ⟨by rfl, ?_⟩) (by assumption) ?_
      rotate_left 1
      · (intro w' hSw; (try dsimp only at hSw); go_simp; try with_reducible rfl)
      try simp only [Act.put, List.setIfInBounds_toArray, List.set_cons_zero, List.set_cons_succ, List.getElem_toArray, List.getElem_cons_succ, List.getElem_cons_zero]
      refine late_take (i := 6) (v := ?_) rfl (by kernel_rfl) (by kernel_rfl) (by kernel_rfl) (by kernel_rfl) (fun _ _ _ h => h) (Or.inl ⟨by rfl, ?_⟩) (by assumption) ?_
      rotate_left 1
      · (intro w' hSw; (try dsimp only at hSw); go_simp; try with_reducible rfl)
      try simp only [Act.put, List.setIfInBounds_toArray, List.set_cons_zero, List.set_cons_succ, List.getElem_toArray, List.getElem_cons_succ, List.getElem_cons_zero]
      refine late_take (i := 7) (v := ?_) rfl (by kernel_rfl) (by kernel_rfl) (by kernel_rfl) (by kernel_rfl) (fun _ _ _ h => h) (Or.inl ⟨by rfl, ?_⟩) (by assumption) ?_
      rotate_left 1
      · (intro w' hSw; (try dsimp only at hSw); go_simp; try with_reducible rfl)
      try simp only [Act.put, List.setIfInBounds_toArray, List.set_cons_zero, List.set_cons_succ, List.getElem_toArray, List.getElem_cons_succ, List.getElem_cons_zero]
      refine late_take (i := 8) (v := ?_) rfl (by kernel_rfl) (by kernel_rfl) (by kernel_rfl) (by kernel_rfl) (fun _ _ _ h => h) (Or.inl ⟨by rfl, ?_⟩) (by assumption) ?_
      rotate_left 1
      · (intro w' hSw; (try dsimp only at hSw); go_simp; try with_reducible rfl)
      try simp only [Act.put, List.setIfInBounds_toArray, List.set_cons_zero, List.set_cons_succ, List.getElem_toArray, List.getElem_cons_succ, List.getElem_cons_zero]
      refine late_one (i := 9) (by kernel_rfl) rfl (fun K hK => ?_)
      go_simp
      (refine (cloneI_any sc (HSM.out.here (Below.refl _ _).drew) hxl).mono ?_; rintro e w5 ⟨v5, rfl, own5, hb5⟩; obtain ⟨va5, ca5, rfl⟩ := own_slice own5; have hb5 := undrewC hb5; have hS5 := HS.out _ hb5; have u2 := HFZ.out _ hb5; have u3 : w5.cell? ⟨g, k * 3 + 2, none⟩ = some (.slice sa xs.length sc) := hS5.2; have OW : Hid (w5.ownsRow wr.heap.size 2 1 (.slice va5 xs.length ca5) xs.length (flatI xs)) := own5; clear own5)
      refine hK.out _ _ (by assumption) (fun _ => ?_)
      try simp only [Act.put, List.setIfInBounds_toArray, List.set_cons_zero, List.set_cons_succ, List.getElem_toArray, List.getElem_cons_succ, List.getElem_cons_zero]
      refine late_one (i := 10) (by kernel_rfl) rfl (fun K hK => ?_)
      go_simp
      refine hK.out _ _ (by assumption) (fun _ => ?_)
      try simp only [Act.put, List.setIfInBounds_toArray, List.set_cons_zero, List.set_cons_succ, List.getElem_toArray, List.getElem_cons_succ, List.getElem_cons_zero]
      refine late_take (i := 11) (v := ?_) rfl (by kernel_rfl) (by kernel_rfl) (by kernel_rfl) (by kernel_rfl) (fun _ _ _ h => h) (Or.inl ⟨by rfl, ?_⟩) (by assumption) ?_
      rotate_left 1
      · (intro w' hSw; (try dsimp only at hSw); go_simp; try with_reducible rfl)
      try simp only [Act.put, List.setIfInBounds_toArray, List.set_cons_zero, List.set_cons_succ, List.getElem_toArray, List.getElem_cons_succ, List.getElem_cons_zero]
      refine late_last (by kernel_rfl) rfl (by kernel_rfl) (fun K hK => ?_)
      go_simp
      refine hK.out _ _ ?_
      try simp only [Act.put, List.setIfInBounds_toArray, List.set_cons_zero, List.set_cons_succ, List.getElem_toArray, List.getElem_cons_succ, List.getElem_cons_zero]
      go_wp2
      have hz5 := hb5.size
      have hp := HF.out.tail (k := k) hlen.symm hlt hb5 OW.out HD0.out HD1.out
      rw [← HT.out] at hp
      have hsz : (w5.setCell ⟨g, k * 3 + 2, none⟩ (.slice va5 xs.length ca5)).heap.size = w5.heap.size := by simp
      have hp' : FR (w5.setCell ⟨g, k * 3 + 2, none⟩ (.slice va5 xs.length ca5)) v.heap.size (w5.setCell ⟨g, k * 3 + 2, none⟩ (.slice va5 xs.length ca5)).heap.size g fs.length (vs ++ [.slice va5 xs.length ca5]) (fs.take (k + 1)) := by rw [hsz]; exact hp
      have hg0 := HF.out.fo.g0
      go_roundw
      case rel =>
        refine ⟨k + 1, _, by go_num, by omega, hp', fun i hi hki => ?_, ?_, ?_⟩
        · obtain ⟨r0, r1, r2⟩ := HR.out i hi (by omega)
          exact ⟨(set_other (by omega)).trans ((hb5.cell (p := ⟨g, i * 3, none⟩) hgw).trans r0), (set_other (by omega)).trans ((hb5.cell (p := ⟨g, i * 3 + 1, none⟩) hgw).trans r1), (set_other (by omega)).trans ((hb5.cell (p := ⟨g, i * 3 + 2, none⟩) hgw).trans r2)⟩
        · exact (hbr.trans (hb5.mono KR.out.hb.size)).setCell (by show w.heap.size ≤ g; omega) _
        · refine (KR.out.next hb5).onlyO (row := some g) (OnlyO.of_only ((Only.refl g w5).setCell rfl _)) (fun j e => by have e := Option.some.inj e; omega) (fun c hc e => ?_) (fun b hb e => ?_)
          · have e := Option.some.inj e
            simp only [List.mem_cons, List.not_mem_nil, or_false] at hc
            rcases hc with rfl | rfl | rfl | rfl | rfl | rfl <;> simp only at e <;> omega
          · have e := Option.some.inj e
            simp only [List.mem_cons, List.not_mem_nil, or_false] at hb
            omega
      case measure => first | (simp [intOf]; done) | (simp [intOf]; omega)
    · have e : k = fs.length := by omega
      subst e
      rw [List.take_length] at f
      have HF : Hid (FR wr v.heap.size wr.heap.size g fs.length vs fs) := f
      clear f
      go_wp2
      refine bodyPost_ret (results_one rfl _ _ _ [.slice (some ⟨g, 0, none⟩) fs.length cap, .int .i64 at', .bool fresh] rfl (put3_at (z0 := .slice none 0 0) (z1 := .int .i64 0) (z2 := .bool false) _ _ _ k3 k4 k5) Try.underlying48 rfl (by kernel_rfl)) rfl ?_
      have hI : OnlyI (w.heap.size + 1) v.heap.size wr (((wr.setCell ⟨w.heap.size + 1, 0, none⟩ (.slice (some ⟨g, 0, none⟩) fs.length cap)).setCell ⟨w.heap.size + 1, 1, none⟩ (.int .i64 at')).setCell ⟨w.heap.size + 1, 2, none⟩ (.bool fresh)) :=
        (((OnlyI.refl _ _ _).setCell (by omega) (by omega) _).setCell (by omega) (by omega) _).setCell (by omega) (by omega) _
      have hF := (HF.out.onlyI hI (.inr (Nat.le_refl _))).wider (lo' := w.heap.size) (hi' := wr.heap.size) (by omega) (Nat.le_refl _) (by simp)
      refine ⟨g, cap, vs, rfl, hcap, ?_, KR.out.hb.trans (hI.below (by omega) (by have := KR.out.hb.size; omega))⟩
      have hsz : (((wr.setCell ⟨w.heap.size + 1, 0, none⟩ (.slice (some ⟨g, 0, none⟩) fs.length cap)).setCell ⟨w.heap.size + 1, 1, none⟩ (.int .i64 at')).setCell ⟨w.heap.size + 1, 2, none⟩ (.bool fresh)).heap.size = wr.heap.size := by simp
      rw [hsz]
      exact hF
end Go.Proofs.Ytdgefdjgpneanad
