/- The laws' marks in Engines. -/
import Derived.Test.YtibfclfidaofkasEngOwn
import Derived.Test.YtibfclfidaofkasGrpW
import Derived.Test.YtibfclfidaofkasPls
namespace Go.Proofs.Ytibfclfidaofkas
open Go.ChangeShapes Go.WideShapes Go.ChangeAt Go.RowKit
set_option maxRecDepth 100000
set_option linter.unusedVariables false
set_option linter.unusedSimpArgs false

theorem Lay.block {u u' : World} {b : Nat} {vs : List Value} (h : Lay u b vs) (hs : u.heap.size ≤ u'.heap.size) (hb : u'.heap[b]? = u.heap[b]?) : Lay u' b vs :=
  ⟨fun j v hv => (World.cell?_of_block (a := ⟨b, j, none⟩) hb).trans (h.cell j v hv), fun o => (World.frozen?_of_block (a := ⟨b, o, none⟩) hb).trans (h.free o), Nat.lt_of_lt_of_le h.lt hs⟩
/-- What stands behind the marks of a Lend. -/
def kL (k : Int) (T O P : List Q4) : Int := k + 4 * (T.length : Int) + 4 * (O.length : Int) + 4 * (P.length : Int)
def kE (k : Int) (T O P : List Q4) (L : List F8) (K : List Kn) : Int := kAtK (kAt (kL k T O P) L L.length) K K.length
/-- An Engine that is marked from k on. -/
def EngM (w : World) (lo hi : Nat) (sT sO sP vL vK : Value) (k : Int) (T O P : List Q4) (L : List F8) (K : List Kn) : Prop :=
  Eng w lo hi sT sO sP vL vK (marks4 k T.length) (marks4 (k + 4 * (T.length : Int)) O.length) (marks4 (k + 4 * (T.length : Int) + 4 * (O.length : Int)) P.length) (markF (kL k T O P) L) (markK (kAt (kL k T O P) L L.length) K)
set_option maxHeartbeats 4000000 in
theorem markEngine_any {w : World} {lo hi : Nat} (now nx : Int) {aT aO aP aL aK : Option Addr} {nT cT nO cO nP cP nL cL nK cK : Nat} {T O P : List Q4} {L : List F8} {K : List Kn} (k : Int) (h : Eng w lo hi (.slice aT nT cT) (.slice aO nO cO) (.slice aP nP cP) (.slice aL nL cL) (.slice aK nK cK) T O P L K)
    (hn : T.length + O.length + P.length ≤ 1048576) (hL : L.length + sumL L L.length ≤ 1048576) (hK : K.length + sumK K K.length ≤ 1048576) (k0 : 0 ≤ k) (k1 : k ≤ 50000000) :
    Calls Try.prog 16 #[engV now aT nT cT aO nO cO aP nP cP aL nL cL aK nK cK nx, .int .i64 k] w fun e w' => e = .returned (.int .i64 (kE k T O P L K)) ∧ EngM w' lo hi (.slice aT nT cT) (.slice aO nO cO) (.slice aP nP cP) (.slice aL nL cL) (.slice aK nK cK) k T O P L K ∧ OnlyI lo hi w w' := by
  obtain ⟨ll, lh, pl, ph, kl, kh, ⟨g1, g2, g3⟩, ⟨g4, g5, g6⟩, o⟩ := h
  have H : Hid (EOwn w ll lh pl ph kl kh (.slice aT nT cT) (.slice aO nO cO) (.slice aP nP cP) (.slice aL nL cL) (.slice aK nK cK) T O P L K) := o
  have t1 := o.t1
  have t2 := o.t2
  have t3 := o.t3
  clear o
  obtain ⟨v, hv⟩ : ∃ v, v = w.alloc (.cells #[.int .i64 now, .slice aT nT cT, .slice aO nO cO, .slice aP nP cP, .slice aL nL cL, .slice aK nK cK, .int .i64 nx] 39) := ⟨_, rfl⟩
  have nb : Below w.heap.size w v := by rw [hv]; exact new_below _ _
  have L0 : Lay v w.heap.size [.int .i64 now, .slice aT nT cT, .slice aO nO cO, .slice aP nP cP, .slice aL nL cL, .slice aK nK cK, .int .i64 nx] := by rw [hv]; exact lay_new [.int .i64 now, .slice aT nT cT, .slice aO nO cO, .slice aP nP cP, .slice aL nL cL, .slice aK nK cK, .int .i64 nx] _ rfl
  have zv := L0.lt
  have hk1 : 0 ≤ kL k T O P ∧ kL k T O P ≤ 70000000 := by unfold kL; omega
  have hk2 : 0 ≤ kAt (kL k T O P) L L.length ∧ kAt (kL k T O P) L L.length ≤ 80000000 := by unfold kAt; omega
  obtain ⟨M1, hM1⟩ : ∃ m, kL k T O P = m := ⟨_, rfl⟩
  obtain ⟨M2, hM2⟩ : ∃ m, kAt M1 L L.length = m := ⟨_, rfl⟩
  obtain ⟨M3, hM3⟩ : ∃ m, kAtK M2 K K.length = m := ⟨_, rfl⟩
  have HM1 : Hid (kL k T O P = M1) := hM1
  have HM2 : Hid (kAt M1 L L.length = M2) := hM2
  have HM3 : Hid (kAtK M2 K K.length = M3) := hM3
  unfold EngM kE
  rw [hM1, hM2] at hk2
  rw [hM1] at hk1
  rw [hM1, hM2, hM3]
  clear hM1 hM2 hM3
  go_enter Try.func16, Try.ntmps16
  go_upto_region 1 with (fail)
  rw [← hv]
  have r1 : v.cell? ⟨w.heap.size, 1, none⟩ = some (.slice aT nT cT) := L0.cell 1 _ rfl; have r2 : v.cell? ⟨w.heap.size, 2, none⟩ = some (.slice aO nO cO) := L0.cell 2 _ rfl; have r3 : v.cell? ⟨w.heap.size, 3, none⟩ = some (.slice aP nP cP) := L0.cell 3 _ rfl
  have x1 : ∀ b, inL (.slice aT nT cT) (.slice aO nO cO) (.slice aP nP cP) b → b ≠ w.heap.size := fun b hb e => by have := H.out.lb b hb; omega
  clear hv
  go_wp2_with (first
    | (go_at_call 45; refine (markLend_any k (H.out.l.next nb) (by omega) (by omega) (by omega) k0 (by omega)).mono ?_; rintro e w2 ⟨rfl, l2, o2⟩; rw [show k + 4 * (T.length : Int) + 4 * (O.length : Int) + 4 * (P.length : Int) = M1 from HM1.out]; have L2 := L0.block o2.size (o2.block _ zv (fun e => x1 _ e rfl)); have s4 : w2.cell? ⟨w.heap.size, 4, none⟩ = some (.slice aL nL cL) := L2.cell 4 _ rfl)
    | (go_at_call 46; refine (markPV_any M1 ((H.out.next nb).p.same o2.size (fun b a1 a2 a3 => o2.block b a3 (fun e => by have := H.out.lb b e; have := (H.out.l.lo e).1; have := H.out.d1; omega))) hL hk1.1 (by omega)).mono ?_; rintro e w3 ⟨rfl, p3, o3⟩; rw [HM2.out]; have L3 := L2.block o3.size (o3.block _ L2.lt (.inr (by omega))); have u5 : w3.cell? ⟨w.heap.size, 5, none⟩ = some (.slice aK nK cK) := L3.cell 5 _ rfl)
    | (go_at_call 47; refine (markKV_any M2 (((H.out.next nb).k.same o2.size (fun b a1 a2 a3 => o2.block b a3 (fun e => by have := H.out.lb b e; have := (H.out.l.lo e).1; have := H.out.d2; omega))).onlyI o3 (H.out.d3.elim .inr .inl)) hK hk2.1 (by omega)).mono ?_; rintro e w4 ⟨rfl, q4, o4⟩; rw [HM3.out]))
  go_ret
  have z2 := o2.size
  have z3 := o3.size
  have z4 := o4.size
  have d1 := H.out.d1
  have d2 := H.out.d2
  have d3 := H.out.d3
  have zw := nb.size
  refine ⟨rfl, ⟨ll, lh, pl, ph, kl, kh, ⟨g1, g2, g3⟩, ⟨g4, g5, g6⟩, ?_⟩, ?_⟩
  · have bnd : ∀ b, inL (.slice aT nT cT) (.slice aO nO cO) (.slice aP nP cP) b → ll ≤ b ∧ b < lh := fun b hb => ⟨(H.out.l.lo hb).1, H.out.lb b hb⟩
    have l3 := l2.onlyP (p := fun b => pl ≤ b ∧ b < ph) ⟨o3.os, o3.tape, o3.output, o3.size, fun b hb hn => o3.block b hb (by omega)⟩ (fun b e e' => by have := bnd b (.inl e); omega) (fun b e e' => by have := bnd b (.inr (.inl e)); omega) (fun b e e' => by have := bnd b (.inr (.inr e)); omega)
    have l4 := l3.onlyP (p := fun b => kl ≤ b ∧ b < kh) ⟨o4.os, o4.tape, o4.output, o4.size, fun b hb hn => o4.block b hb (by omega)⟩ (fun b e e' => by have := bnd b (.inl e); omega) (fun b e e' => by have := bnd b (.inr (.inl e)); omega) (fun b e e' => by have := bnd b (.inr (.inr e)); omega)
    exact ⟨l4, H.out.lb, p3.onlyI o4 d3, q4, d1, d2, d3, by omega, by omega, by omega⟩
  · have i2 : OnlyI lo hi v w2 := ⟨o2.os, o2.tape, o2.output, o2.size, fun b hb hn => o2.block b hb (fun e => by have := H.out.lb b e; have := (H.out.l.lo e).1; omega)⟩
    exact (OnlyI.of_below nb).trans (i2.trans ((o3.wider g2 g5).trans (o4.wider g3 g6)))
set_option maxHeartbeats 4000000 in
theorem heldEngine_any {w : World} {lo hi : Nat} (now nx : Int) {aT aO aP aL aK : Option Addr} {nT cT nO cO nP cP nL cL nK cK : Nat} {T O P : List Q4} {L : List F8} {K : List Kn} (k : Int) (h : EngM w lo hi (.slice aT nT cT) (.slice aO nO cO) (.slice aP nP cP) (.slice aL nL cL) (.slice aK nK cK) k T O P L K)
    (hn : T.length + O.length + P.length ≤ 1048576) (hL : L.length + sumL L L.length ≤ 1048576) (hK : K.length + sumK K K.length ≤ 1048576) (k0 : 0 ≤ k) (k1 : k ≤ 50000000) :
    Calls Try.prog 17 #[engV now aT nT cT aO nO cO aP nP cP aL nL cL aK nK cK nx, .int .i64 k] w fun e w' => e = .returned (.int .i64 (kE k T O P L K)) ∧ Below w.heap.size w w' := by
  unfold EngM at h
  have hk1 : 0 ≤ kL k T O P ∧ kL k T O P ≤ 70000000 := by unfold kL; omega
  have hk2 : 0 ≤ kAt (kL k T O P) L L.length ∧ kAt (kL k T O P) L L.length ≤ 80000000 := by unfold kAt; omega
  have hk3 := kAtK_pos (k := kAt (kL k T O P) L L.length) (ks := K) hk2.1 K.length
  unfold kE
  obtain ⟨M1, hM1⟩ : ∃ m, kL k T O P = m := ⟨_, rfl⟩
  obtain ⟨M2, hM2⟩ : ∃ m, kAt M1 L L.length = m := ⟨_, rfl⟩
  obtain ⟨M3, hM3⟩ : ∃ m, kAtK M2 K K.length = m := ⟨_, rfl⟩
  have HM1 : Hid (kL k T O P = M1) := hM1
  have HM2 : Hid (kAt M1 L L.length = M2) := hM2
  have HM3 : Hid (kAtK M2 K K.length = M3) := hM3
  rw [hM1, hM2] at hk2 h
  rw [hM1, hM2, hM3] at hk3
  rw [hM1] at hk1
  rw [hM1, hM2, hM3]
  clear hM1 hM2 hM3
  obtain ⟨ll, lh, pl, ph, kl, kh, _, _, o⟩ := h
  have HL : Hid (LV w ll (.slice aT nT cT) (.slice aO nO cO) (.slice aP nP cP) (marks4 k T.length) (marks4 (k + 4 * (T.length : Int)) O.length) (marks4 (k + 4 * (T.length : Int) + 4 * (O.length : Int)) P.length)) := o.l
  have HP : Hid (TV w pl ph (.slice aL nL cL) (markF M1 L)) := o.p
  have HK : Hid (KV w kl kh (.slice aK nK cK) (markK M2 K)) := o.k
  clear o
  have p1 : ¬ (M1 < 0) := by omega
  have p2 : ¬ (M2 < 0) := by omega
  have p3 : ¬ (M3 < 0) := by omega
  obtain ⟨v, hv⟩ : ∃ v, v = w.alloc (.cells #[.int .i64 now, .slice aT nT cT, .slice aO nO cO, .slice aP nP cP, .slice aL nL cL, .slice aK nK cK, .int .i64 nx] 39) := ⟨_, rfl⟩
  have nb : Below w.heap.size w v := by rw [hv]; exact new_below _ _
  have L0 : Lay v w.heap.size [.int .i64 now, .slice aT nT cT, .slice aO nO cO, .slice aP nP cP, .slice aL nL cL, .slice aK nK cK, .int .i64 nx] := by rw [hv]; exact lay_new [.int .i64 now, .slice aT nT cT, .slice aO nO cO, .slice aP nP cP, .slice aL nL cL, .slice aK nK cK, .int .i64 nx] _ rfl
  have q1 := hk1.1
  have q2 := hk1.2
  have q3 := hk2.1
  have q4 := hk2.2
  go_enter Try.func17, Try.ntmps17
  go_upto_region 1 with (fail)
  rw [← hv]
  have r1 : v.cell? ⟨w.heap.size, 1, none⟩ = some (.slice aT nT cT) := L0.cell 1 _ rfl; have r2 : v.cell? ⟨w.heap.size, 2, none⟩ = some (.slice aO nO cO) := L0.cell 2 _ rfl; have r3 : v.cell? ⟨w.heap.size, 3, none⟩ = some (.slice aP nP cP) := L0.cell 3 _ rfl
  clear hv
  go_wp2_with (first
    | (go_at_call 48; refine (heldLend_any k (HL.out.next nb) (by omega) (by omega) (by omega) k0 (by omega)).mono ?_; rintro e w2 ⟨rfl, b2⟩; rw [show k + 4 * (T.length : Int) + 4 * (O.length : Int) + 4 * (P.length : Int) = M1 from HM1.out]; have L2 := L0.next b2; have c2 := below_two nb b2; have s4 : w2.cell? ⟨w.heap.size, 4, none⟩ = some (.slice aL nL cL) := L2.cell 4 _ rfl)
    | (go_at_call 49; refine (heldPV_any M1 (HP.out.next c2) hL q1 (by omega)).mono ?_; rintro e w3 ⟨rfl, rfl⟩; rw [HM2.out]; have u5 : w3.cell? ⟨w.heap.size, 5, none⟩ = some (.slice aK nK cK) := L2.cell 5 _ rfl)
    | (go_at_call 50; refine (heldKV_any M2 (HK.out.next c2) hK q3 (by omega)).mono ?_; rintro e w4 ⟨rfl, rfl⟩; rw [HM3.out]))
  go_ret
  exact ⟨rfl, c2⟩
end Go.Proofs.Ytibfclfidaofkas
