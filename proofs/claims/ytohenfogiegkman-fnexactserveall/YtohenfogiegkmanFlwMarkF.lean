/- The laws' marks in Turns: the loops. -/
import Derived.Test.YtohenfogiegkmanFlwMark
namespace Go.Proofs.Ytohenfogiegkman
open Go.ChangeShapes Go.WideShapes Go.ChangeAt Go.RowKit
set_option maxRecDepth 100000
set_option linter.unusedVariables false
set_option linter.unusedSimpArgs false

set_option maxHeartbeats 4000000 in
theorem markFlows_any {w : World} {lo hi g : Nat} {vs : List Value} {fs : List F8} (cap : Nat) (k : Int) (f : FO w lo hi g fs.length vs fs) (hn : fs.length + sumL fs fs.length ≤ 1048576) (k0 : 0 ≤ k) (k1 : k ≤ 100000000) :
    Calls Try.prog 40 #[.slice (some ⟨g, 0, none⟩) fs.length cap, .int .i64 k] w fun e w' => e = .returned (.int .i64 (kAt k fs fs.length)) ∧ FO w' lo hi g fs.length vs (markF k fs) ∧ OnlyI lo hi w w' := by
  have hML := markF_length k fs
  have hni : (fs.length : Int) ≤ 1048576 := by omega
  go_enter Try.func40, Try.ntmps40
  go_wp2
  go_loopw [1, 5] (fun s i wr => ∃ j : Nat, i = .int .i64 j ∧ j ≤ fs.length ∧ s = .int .i64 (kAt k fs j) ∧ FO wr lo hi g fs.length vs (mix (markF k fs) fs j) ∧ OnlyI lo hi w wr) (fun _ i _ => fs.length - (intOf i).toNat)
  case atStart => exact ⟨0, rfl, by omega, by show _ = Value.int .i64 (k + 2 * (0 : Int) + (0 : Int)); congr 1; omega, by rw [mix_zero]; exact f, OnlyI.refl _ _ _⟩
  case round =>
    obtain ⟨j, rfl, hj, rfl, fr, hO⟩ := hrel
    by_cases hlt : j < fs.length
    · have hlt' : (j : Int) < (fs.length : Int) := by omega
      have hm : j < (mix (markF k fs) fs j).length := by rw [mix_length hML hj]; exact hlt
      have hv : j < vs.length := by rw [fr.len]; exact hm
      obtain ⟨c0, c1, c2⟩ := fr.got j hm hv
      have ho := fr.own j hm hv
      have hfar := fr.far j hv
      rw [mix_at hML hlt hm] at c0 c1 ho
      have hset := mix_set hML hlt (by rw [hML]; exact hlt)
      rw [markF_get k fs j (by rw [hML]; exact hlt) hlt] at hset
      have hmo := sumL_mono fs (show j + 1 ≤ fs.length by omega)
      rw [sumL_next hlt] at hmo
      have hk2 := kAt_next (k := k) hlt
      have hkb : k ≤ kAt k fs j ∧ kAt k fs j ≤ 200000000 := by unfold kAt; omega
      have u0 := (fr.any (j * 3) (by omega)).2
      have u1 := (fr.any (j * 3 + 1) (by omega)).2
      have g0 := fr.g0
      have g1 := fr.g1
      have tp := fr.top
      obtain ⟨K, hK⟩ : ∃ K, kAt k fs j = K := ⟨_, rfl⟩
      rw [hK] at hset hk2 hkb ⊢
      obtain ⟨x, hx⟩ : ∃ x, fs[j] = x := ⟨_, rfl⟩
      rw [hx] at c0 c1 ho hset hmo hk2
      obtain ⟨q, d, xs⟩ := x
      simp only at c0 c1 ho hset hmo hk2
      obtain ⟨va, hva⟩ : ∃ va, vs[j] = va := ⟨_, rfl⟩
      rw [hva] at c2 ho hfar
      have HVA : Hid (vs[j] = va) := hva
      have HSET : Hid ((mix (markF k fs) fs j).set j (K, K + 1, marksI (K + 2) xs.length) = mix (markF k fs) fs (j + 1)) := hset
      have HK2 : Hid (kAt k fs (j + 1) = K + 2 + (xs.length : Int)) := hk2
      have HFR : Hid (FO wr lo hi g fs.length vs (mix (markF k fs) fs j)) := fr
      have hxl : xs.length ≤ 1048576 := by omega
      have hkb0 := hkb.1
      have hkb1 := hkb.2
      obtain ⟨sa, sc, e, hcp, hio⟩ := ho
      subst e
      have hgw : g < wr.heap.size := by omega
      clear hva hx hK hset hk2 fr hkb hmo
      obtain ⟨W2, hW2⟩ : ∃ W2, W2 = (wr.setCell ⟨g, j * 3, none⟩ (.int .i64 K)).setCell ⟨g, j * 3 + 1, none⟩ (.int .i64 (K + 1)) := ⟨_, rfl⟩
      have hWb : ∀ b, b ≠ g → W2.heap[b]? = wr.heap[b]? := fun b hb => by rw [hW2, Below.heap_setCell _ _ _ _ (by exact hb), Below.heap_setCell _ _ _ _ (by exact hb)]
      have hWs : W2.heap.size ≤ wr.heap.size ∧ wr.heap.size ≤ W2.heap.size := by rw [hW2]; simp
      have e0 : W2.cell? ⟨g, j * 3, none⟩ = some (.int .i64 K) := by rw [hW2]; exact (set_other (by omega)).trans (set_same _ c0)
      have e1 : W2.cell? ⟨g, j * 3 + 1, none⟩ = some (.int .i64 (K + 1)) := by rw [hW2]; exact set_same _ ((set_other (by omega)).trans c1)
      have e2 : W2.cell? ⟨g, j * 3 + 2, none⟩ = some (.slice sa xs.length sc) := by rw [hW2]; exact (set_other (by omega)).trans ((set_other (by omega)).trans c2)
      have HOT : Hid (∀ i, i < j * 3 ∨ j * 3 + 2 < i → W2.cell? ⟨g, i, none⟩ = wr.cell? ⟨g, i, none⟩) := fun i hi => by rw [hW2]; exact (set_other (by omega)).trans (set_other (by omega))
      have HFZ : Hid (∀ i, W2.frozen? ⟨g, i, none⟩ = wr.frozen? ⟨g, i, none⟩) := fun i => by rw [hW2, World.frozen?_setCell, World.frozen?_setCell]
      have HIO : Hid (IO W2 lo hi (.slice sa xs.length sc) xs) := IO.same (w := wr) ⟨sa, sc, rfl, hcp, hio⟩ (by omega) (fun b eb => hWb b (fun e' => hfar (by rw [eb, e'])))
      have HWB : Hid (∀ b, b ≠ g → W2.heap[b]? = wr.heap[b]?) := hWb
      clear hWb hio
      have HOI : Hid (OnlyI lo hi w W2) := by rw [hW2]; exact (hO.setCell g0 g1 _).setCell g0 g1 _
      have u2 : (wr.setCell ⟨g, j * 3, none⟩ (.int .i64 K)).frozen? ⟨g, j * 3 + 1, none⟩ = false := by rw [World.frozen?_setCell]; exact u1
      have c1' : (wr.setCell ⟨g, j * 3, none⟩ (.int .i64 K)).cell? ⟨g, j * 3 + 1, none⟩ = some (.int .i64 d) := (set_other (by omega)).trans c1
      go_upto_region 8 with (fail)
      rw [← hW2]
      clear hW2 c0 c1 c2 c1' u0 u1 u2
      go_wp2_with (first | (go_at_call 19; rw [show K + 1 + 1 = K + 2 by omega]; refine (markIO_any (K + 2) HIO.out hxl (by omega) (by omega)).mono ?_; rintro e w3 ⟨rfl, io3, o3⟩))
      have hg3 : elB (.slice sa xs.length sc) ≠ some g := hfar
      have gc : ∀ i, w3.cell? ⟨g, i, none⟩ = W2.cell? ⟨g, i, none⟩ := fun i => o3.cell (p := ⟨g, i, none⟩) (by show g < W2.heap.size; omega) hg3
      have gf : ∀ i, w3.frozen? ⟨g, i, none⟩ = W2.frozen? ⟨g, i, none⟩ := fun i => o3.frozen (p := ⟨g, i, none⟩) (by show g < W2.heap.size; omega) hg3
      have hs3 := o3.size
      have hp := HFR.out.turn (i := j) (q := K) (d := K + 1) (v := .slice sa xs.length sc) (xs := marksI (K + 2) xs.length) (w' := w3) hm hv (by omega) (fun b h1 h2 h3 h4 => (o3.block b (by omega) (by rw [HVA.out] at h4; exact h4)).trans (HWB.out b h3)) (fun i hi => (gc i).trans (HOT.out i hi)) (fun i => (gf i).trans (HFZ.out i)) ((gc _).trans e0) ((gc _).trans e1) ((gc _).trans e2) io3 (fun b e => by rw [HVA.out]; exact e)
      rw [HSET.out] at hp
      have hvs : vs.set j (.slice sa xs.length sc) = vs := by rw [← HVA.out]; exact List.set_getElem_self hv
      rw [hvs] at hp
      go_roundw
      case rel =>
        refine ⟨j + 1, by go_num, by omega, ?_, hp, HOI.out.trans (OnlyI.ofO o3 (fun b e => ⟨(HIO.out.el e).1, (HIO.out.el e).2.1⟩))⟩
        rw [HK2.out]
      case measure => first | (simp [intOf]; done) | (simp [intOf]; omega)
    · have e : j = fs.length := by omega
      subst e
      rw [mix_all hML] at fr
      go_wp2
      go_ret
      exact ⟨rfl, fr, hO⟩
end Go.Proofs.Ytohenfogiegkman
