/- The draw of Turns. -/
import Derived.Test.YtdgefdjgpneanadDraw8
import Derived.Test.YtdgefdjgpneanadGrpA
import Derived.Test.YtdgefdjgpneanadAllMath
import Derived.Deep.RegionHeld3
import Derived.Deep.DeepCutAuto
namespace Go.Proofs.Ytdgefdjgpneanad
open Go.ChangeShapes Go.WideShapes Go.ChangeAt Go.RowKit
set_option maxRecDepth 100000
set_option linter.unusedVariables false
set_option linter.unusedSimpArgs false

theorem new_turns {fs : List F8} (h0 : 1 ≤ fs.length) (h1 : fs.length ≤ 4) (h : ∀ f ∈ fs, NewF f) : TurnsOk fs 0 true := by
  refine ⟨h0, by omega, by omega, by omega, fun k hk => ?_, fun k hk _ => ?_⟩
  · have hf := h _ (List.getElem_mem hk)
    have hd := hf.d
    exact ⟨hf.q0, by have := hf.q1; omega, by omega, by have := hf.q0; omega, by have := hf.len; omega, fun _ => hd, hf.seg⟩
  · have hd := (h _ (List.getElem_mem hk)).d
    omega
/-- Served: each list is a row of its own still. -/
theorem fr_serve {w w' : World} {lo hi b8 g : Nat} {vs vs' : List Value} {fs : List F8} {at' : Int} {fresh : Bool} (f : FR w lo hi g fs.length vs fs) (fo : FO w' lo w'.heap.size g fs.length vs' (srvFs fs at' fresh)) (on : Only2 g b8 w w') (hr : SlRow w vs fs at' fresh w' vs') (hb8 : ∀ i (h : i < vs.length), vs[i].ownBlock ≠ some b8) :
    FR w' lo w'.heap.size g fs.length vs' (srvFs fs at' fresh) := by
  rcases hr with ⟨rfl, e1, rfl⟩ | ⟨m, v, q, R, r, base, hm, rfl, e1, hbase, own⟩
  · rw [e1]
    exact f.wider (Nat.le_refl _) f.fo.top (Nat.le_refl _)
  · have tp := f.fo.top
    have len := f.fo.len
    have g0 := f.fo.g0
    have g1 := f.fo.g1
    refine ⟨fo, fun i h1 h2 => ?_, fun i h2 b e => ?_⟩
    · by_cases hi' : m = i
      · subst hi'
        have e2 : (srvFs fs at' fresh)[m].2.2 = r := by simp only [e1, List.getElem_set_self]
        rw [e2, List.getElem_set_self]
        exact row_lower own (by omega)
      · have h2' : i < vs.length := by simpa using h2
        have h1' : i < fs.length := by omega
        have e2 : (srvFs fs at' fresh)[i].2.2 = fs[i].2.2 := by simp only [e1, List.getElem_set_ne hi']
        rw [e2, List.getElem_set_ne hi']
        have rr := f.row i h1' h2'
        refine ⟨rr.1, ?_⟩
        rcases rr.2 with r2 | ⟨g2, cap, cur, e3, k1, k2, k3⟩
        · exact .inl r2
        · have hs := f.sep i h2' g2 (by rw [e3]; rfl)
          exact .inr ⟨g2, cap, cur, e3, k1, (on.block g2 (by omega) hs.1 (fun e' => hb8 i h2' (by rw [e3, ← e']; rfl))).trans k2, k3⟩
    · rw [List.getElem_set] at e
      by_cases hi' : m = i
      · rw [if_pos hi'] at e
        have hb := own.lt b e
        refine ⟨by omega, hb.2, fun j hj hne => ?_⟩
        rw [List.getElem_set_ne (by omega)]
        intro e'
        have := (f.sep j (by simpa using hj) b e').2.1
        omega
      · rw [if_neg hi'] at e
        have h2' : i < vs.length := by simpa using h2
        obtain ⟨s1, s2, s3⟩ := f.sep i h2' b e
        have := on.size
        refine ⟨s1, by omega, fun j hj hne => ?_⟩
        rw [List.getElem_set]
        by_cases hjm : m = j
        · rw [if_pos hjm]
          intro e'
          have := (own.lt b e').1
          omega
        · rw [if_neg hjm]
          exact s3 j (by simpa using hj) hne
theorem srv_turns {fs : List F8} {at' : Int} {fresh : Bool} (h : TurnsOk fs at' fresh) : TurnsOk (srvFs fs at' fresh) (srvAt fs at' fresh) (srvFr fs at' fresh) := by
  cases hf : findT fs (comeOf fs.length at' fresh fs.length) with
  | none =>
    obtain ⟨e0, e1, e2, _, _⟩ := srv_none hf
    rw [e0, e1, e2]
    exact h
  | some p =>
    obtain ⟨m, g, s, SI⟩ := srv_is h (by rw [hf]; exact fun e => by cases e)
    obtain ⟨e0, e1, e2, _, _⟩ := SI.fs
    rw [e0, e1, e2]
    exact SI.ok h
/-- Turns in their variable, each list a row, and the cursor. -/
structure T8 (B : Nat) (a0 : Option Addr) (len cap b : Nat) (w wr : World) (lo g sc : Nat) (vs : List Value) (fs : List F8) (a : Int) (f : Bool) : Prop where
  cur : Cur B a0 len cap b wr
  only : Only b w wr
  lt : b < w.heap.size
  r0 : wr.cell? ⟨w.heap.size, 0, none⟩ = some (.slice none 0 0)
  r1 : wr.cell? ⟨w.heap.size, 1, none⟩ = some (.int .i64 0)
  r2 : wr.cell? ⟨w.heap.size, 2, none⟩ = some (.bool false)
  rf : ∀ o : Nat, wr.frozen? ⟨w.heap.size, o, none⟩ = false
  t0 : wr.cell? ⟨w.heap.size + 1, 0, none⟩ = some (.slice (some ⟨g, 0, none⟩) fs.length sc)
  t1 : wr.cell? ⟨w.heap.size + 1, 1, none⟩ = some (.int .i64 a)
  t2 : wr.cell? ⟨w.heap.size + 1, 2, none⟩ = some (.bool f)
  tf : ∀ o : Nat, wr.frozen? ⟨w.heap.size + 1, o, none⟩ = false
  z0 : w.heap.size + 2 ≤ lo
  fr : FR wr lo wr.heap.size g fs.length vs fs
  ok : TurnsOk fs a f
  l4 : fs.length ≤ 4
  cp : fs.length ≤ sc
theorem T8.low {B : Nat} {a0 : Option Addr} {len cap b : Nat} {w wr : World} {lo g sc : Nat} {vs : List Value} {fs : List F8} {a : Int} {f : Bool} (h : T8 B a0 len cap b w wr lo g sc vs fs a f) (i : Nat) (hi : i < vs.length) {x : Nat} (e : vs[i].ownBlock = some x) : lo ≤ x := by
  have := (h.fr.row i (by rw [← h.fr.fo.len]; exact hi) hi).lt x e
  exact this.1
theorem T8.draw {B : Nat} {a0 : Option Addr} {len cap b : Nat} {w wr w2 : World} {lo g sc : Nat} {vs : List Value} {fs : List F8} {a : Int} {f : Bool} (h : T8 B a0 len cap b w wr lo g sc vs fs a f) (o : Only b wr w2) (k : Cur B a0 len cap b w2) : T8 B a0 len cap b w w2 lo g sc vs fs a f := by
  have h0 := h.z0
  have h1 := h.lt
  have h2 := h.fr.fo.g0
  have h3 := h.fr.fo.g1
  have hc : ∀ x o' : Nat, x < wr.heap.size → x ≠ b → w2.cell? ⟨x, o', none⟩ = wr.cell? ⟨x, o', none⟩ := fun x o' hx hn => o.cell (p := ⟨x, o', none⟩) hx hn
  have hf : ∀ x o' : Nat, x < wr.heap.size → x ≠ b → w2.frozen? ⟨x, o', none⟩ = wr.frozen? ⟨x, o', none⟩ := fun x o' hx hn => o.frozen (p := ⟨x, o', none⟩) hx hn
  have oi : OnlyI b (b + 1) wr w2 := ⟨o.os, o.tape, o.output, o.size, fun k' hk' hn => o.block k' hk' (by omega)⟩
  exact ⟨k, h.only.trans o, h.lt, (hc _ 0 (by omega) (by omega)).trans h.r0, (hc _ 1 (by omega) (by omega)).trans h.r1, (hc _ 2 (by omega) (by omega)).trans h.r2, fun o' => (hf _ o' (by omega) (by omega)).trans (h.rf o'), (hc _ 0 (by omega) (by omega)).trans h.t0, (hc _ 1 (by omega) (by omega)).trans h.t1, (hc _ 2 (by omega) (by omega)).trans h.t2, fun o' => (hf _ o' (by omega) (by omega)).trans (h.tf o'), h.z0, (h.fr.onlyI oi (.inr (by omega))).wider (Nat.le_refl _) o.size (Nat.le_refl _), h.ok, h.l4, h.cp⟩
theorem T8.serve {B : Nat} {a0 : Option Addr} {len cap b : Nat} {w wr w4 : World} {lo g sc : Nat} {vs : List Value} {fs : List F8} {a : Int} {f : Bool} {e : Ending} (h : T8 B a0 len cap b w wr lo g sc vs fs a f) (p : SlPost2 wr lo (w.heap.size + 1) g vs fs sc a f e w4) :
    (∃ v, e = .returned v) ∧ ∃ vs', T8 B a0 len cap b w w4 lo g sc vs' (srvFs fs a f) (srvAt fs a f) (srvFr fs a f) := by
  obtain ⟨vs', ⟨he, fo, _, c0, c1, c2, cf, on⟩, hr⟩ := p
  have h0 := h.z0
  have h1 := h.lt
  have h2 := h.fr.fo.g0
  have hz := h.only.size
  have hzz := h.fr.fo.g1
  have hB : Below (w.heap.size + 1) wr w4 := on.below (by omega) (Nat.le_refl _) (by omega)
  have hc : ∀ o' : Nat, w4.cell? ⟨w.heap.size, o', none⟩ = wr.cell? ⟨w.heap.size, o', none⟩ := fun o' => hB.cell (p := ⟨w.heap.size, o', none⟩) (by show w.heap.size < w.heap.size + 1; omega)
  refine ⟨⟨_, he⟩, vs', ⟨h.cur.under hB (by omega), ⟨on.os.trans h.only.os, on.tape.trans h.only.tape, on.output.trans h.only.output, Nat.le_trans h.only.size on.size, fun k hk hn => (hB.block k (by omega)).trans (h.only.block k hk hn)⟩, h.lt, (hc 0).trans h.r0, (hc 1).trans h.r1, (hc 2).trans h.r2, fun o' => (hB.frozen (p := ⟨w.heap.size, o', none⟩) (by show w.heap.size < w.heap.size + 1; omega)).trans (h.rf o'), ?_, c1, c2, cf, h.z0, ?_, srv_turns h.ok, by rw [srv_length]; exact h.l4, by rw [srv_length]; exact h.cp⟩⟩
  · rw [srv_length]; exact c0
  · rw [srv_length]
    exact fr_serve h.fr fo on hr (fun i hi e' => by have := h.low i hi e'; omega)
def T8Post (B : Nat) (a0 : Option Addr) (len cap b : Nat) (w : World) (e : Ending) (w' : World) : Prop :=
  ∃ g c vs fs at' fresh, e = .returned (turnV (some ⟨g, 0, none⟩) fs.length c at' fresh) ∧ fs.length ≤ c ∧ FR w' w.heap.size w'.heap.size g fs.length vs fs ∧ TurnsOk fs at' fresh ∧ fs.length ≤ 4 ∧ Cur B a0 len cap b w' ∧ Only b w w'
theorem info_flow8 : (Try.prog.info? 61).map (fun i => (i.zero, i.size, i.bytes)) = some (some (.agg #[.int .i64 0, .int .i64 0, .slice none 0 0]), 3, 40) := by kernel_rfl
theorem E8.new {B : Nat} {a0 : Option Addr} {len cap b : Nat} {w wr : World} {lo : Nat} {sF : Value} {G : List G8} {fs : List F8} (d : D8 B a0 len cap b w wr lo sF G fs) (q : Int) : E8 B a0 len cap b w (wr.alloc (.cells #[.int .i64 q, .int .i64 0, .slice none 0 0] 61)) lo sF G fs wr.heap.size q (.slice none 0 0) [] :=
  ⟨d.next (newB _ _), by go_simp, by go_simp, by go_simp, fun o => by go_simp, d.z1, by simp, fun g e => (d.st.row.lt g e).2, fun i h g e => (d.st.own i h e).2, ⟨rfl, .inl ⟨rfl, rfl⟩⟩, (fun g e => by cases e), rfl⟩
set_option maxHeartbeats 16000000 in
theorem l8Draw_acc {B : Nat} {a0 : Option Addr} {len cap b : Nat} {w : World} (kc : Cur B a0 len cap b w) :
    Calls Try.prog 119 #[.pointer (some ⟨b, 0, none⟩)] w (T8Post B a0 len cap b w) := by
  obtain ⟨i0, hi0, hz0, hz1', hz2⟩ := info_parts info_int
  obtain ⟨i1, hj, hy0, hy1, hy2⟩ := info_parts info_flow
  have hb := kc.hi
  obtain ⟨v, hv⟩ : ∃ v, v = (w.alloc (.cells #[.slice none 0 0, .int .i64 0, .bool false] 48)).alloc (.cells #[.slice none 0 0, .int .i64 0, .bool true] 48) := ⟨_, rfl⟩
  have hvz : v.heap.size = w.heap.size + 2 := by rw [hv]; simp
  have D0 : Hid (D8 B a0 len cap b w v v.heap.size (.slice none 0 0) [] []) := by
    rw [hvz, hv]
    refine ⟨(kc.alloc _).alloc _, ((Only.refl b w).alloc _).alloc _, hb, by go_simp, by go_simp, by go_simp, fun o => by go_simp, by go_simp, by go_simp, by go_simp, fun o => by go_simp, Nat.le_refl _, by simp, ?_, fun f hf => by cases hf⟩
    exact ⟨⟨rfl, .inl ⟨rfl, rfl⟩⟩, rfl, (fun i h => by cases h), (fun i h => by cases h), (fun i h => by cases h)⟩
  obtain ⟨lo, hlo⟩ : ∃ lo, lo = v.heap.size := ⟨_, rfl⟩
  rw [← hlo] at D0
  have lolo : w.heap.size + 2 ≤ lo ∧ lo ≤ w.heap.size + 2 := by omega
  clear hvz hlo
  go_enter Try.func119, Try.ntmps119
  go_upto_region 2 with (fail)
  rw [← hv]
  clear hv
  go_wp2_with (first
    | (go_at_call 62; refine (below_acc _ D0.out.cur (Only.refl _ _) (by omega) (by omega)).mono ?_; rintro e w1 ⟨x1, rfl, hx1, k1, o1⟩; have D1 : Hid (D8 B a0 len cap b w w1 lo (.slice none 0 0) [] []) := D0.out.draw o1 k1; have hw1 : IntKind.i64.wrap (1 + x1) = 1 + x1 := (by simp only [IntKind.wrap_i64, wrap64]; omega)))
  obtain ⟨N, hN⟩ : ∃ N : Nat, 1 + x1 = N := ⟨(1 + x1).toNat, by omega⟩
  rw [hN]
  have hN1 : 1 ≤ N ∧ N ≤ 4 := by omega
  clear hN hw1 D0
  go_loopw [4] (fun i wr => ∃ (j : Nat) (sa : Option Addr) (sc : Nat) (G : List G8) (fs : List F8), i = .int .i64 j ∧ fs.length + j = N ∧ Hid (D8 B a0 len cap b w wr lo (.slice sa fs.length sc) G fs)) (fun i _ => (intOf i).toNat)
  case atStart => exact ⟨N, none, 0, [], [], rfl, by simp, D1⟩
  case round =>
    clear D1
    obtain ⟨j, sa, sc, G, fs, rfl, hjN, DR⟩ := hrel
    have HJN : Hid (fs.length + j = N) := hjN
    have hfl : fs.length ≤ 4 := by omega
    have hj4 : j ≤ 4 := by omega
    clear hjN
    cases j with
    | succ j =>
      have hj1 : (0 : Int) < ((j + 1 : Nat) : Int) := by omega
      go_upto_region 6 with (first
        | (go_at_call_of 62 (Value.int IntKind.i64 3); refine (below_acc 3 DR.out.cur (Only.refl _ _) (by omega) (by omega)).mono ?_; rintro e w2 ⟨x2, rfl, hx2, k2, o2⟩; have D2 : Hid (D8 B a0 len cap b w w2 lo (.slice sa fs.length sc) G fs) := DR.out.draw o2 k2)
        | (go_at_call_of 62 (Value.int IntKind.i64 2000); refine (below_acc 2000 D2.out.cur (Only.refl _ _) (by omega) (by omega)).mono ?_; rintro e w3 ⟨x3, rfl, hx3, k3, o3⟩; have D3 : Hid (D8 B a0 len cap b w w3 lo (.slice sa fs.length sc) G fs) := D2.out.draw o3 k3; have hmul : 0 ≤ x2 * x3 ∧ x2 * x3 ≤ 2 * 1999 := ⟨Int.mul_nonneg hx2.1 hx3.1, Int.mul_le_mul (by omega) (by omega) hx3.1 (by omega)⟩; have hwm : IntKind.i64.wrap (x2 * x3) = x2 * x3 := (by simp only [IntKind.wrap_i64, wrap64]; omega); have hwq : IntKind.i64.wrap (1500 + x2 * x3) = 1500 + x2 * x3 := (by simp only [IntKind.wrap_i64, wrap64]; omega)))
      obtain ⟨q, hq⟩ : ∃ q, 1500 + x2 * x3 = q := ⟨_, rfl⟩
      have hq1 : 1500 ≤ q ∧ q ≤ 10000 := by omega
      rw [hq]
      obtain ⟨v5, hv5⟩ : ∃ v5, v5 = w3.alloc (.cells #[.int .i64 q, .int .i64 0, .slice none 0 0] 61) := ⟨_, rfl⟩
      rw [← hv5]
      obtain ⟨b5, hb5⟩ : ∃ b5, b5 = w3.heap.size := ⟨_, rfl⟩
      rw [← hb5]
      have E0 : Hid (E8 B a0 len cap b w v5 lo (.slice sa fs.length sc) G fs b5 q (.slice none 0 0) []) := by rw [hv5, hb5]; exact E8.new D3.out q
      clear hv5 hb5 hq hwq hwm hmul hx2 hx3 D2 D3 DR k2 k3 o2 o3
      go_wp2_with (first
        | (go_at_call 62; refine (below_acc 14 E0.out.d.cur (Only.refl _ _) (by omega) (by omega)).mono ?_; rintro e w4 ⟨x4, rfl, hx4, k4, o4⟩; have E4 : Hid (E8 B a0 len cap b w w4 lo (.slice sa fs.length sc) G fs b5 q (.slice none 0 0) []) := E0.out.draw o4 k4))
      obtain ⟨M, rfl⟩ := Int.eq_ofNat_of_zero_le hx4.1
      have hM : M ≤ 13 := by omega
      clear hx4 k4 o4 E0
      go_loopw [6] (fun i wr => ∃ (k : Nat) (s5 : Option Addr) (c5 : Nat) (xs : List Int), i = .int .i64 k ∧ xs.length + k ≤ 13 ∧ Hid (E8 B a0 len cap b w wr lo (.slice sa fs.length sc) G fs b5 q (.slice s5 xs.length c5) xs)) (fun i _ => (intOf i).toNat)
      case atStart => exact ⟨M, none, 0, [], rfl, by simpa using hM, E4⟩
      case round =>
        clear E4
        obtain ⟨k, s5, c5, xs, rfl, hk13, ER⟩ := hrel
        have HK13 : Hid (xs.length + k ≤ 13) := hk13
        have hxl : xs.length ≤ 13 := by omega
        have hk4 : k ≤ 13 := by omega
        clear hk13
        have ef2 := ER.out.f2
        have ef0 := ER.out.f0
        have ef1 := ER.out.f1
        have et0 := ER.out.d.t0
        cases k with
        | succ k =>
          have hk1 : (0 : Int) < ((k + 1 : Nat) : Int) := by omega
          go_wp2
          refine region_late (S := fun w' => w'.cell? ⟨b5, 2, none⟩ = some (.slice s5 xs.length c5)) 8 (by kernel_rfl) (ER.out.f2) (fun hS => ?_)
          refine late_take (i := 0) (v := ?_) rfl (by kernel_rfl) (by kernel_rfl) (by kernel_rfl) (by kernel_rfl) (fun _ _ _ h => h) (Or.inl ⟨by rfl, ?_⟩) (by assumption) ?_
          rotate_left 1
          · (intro w' hSw; (try dsimp only at hSw); go_simp; try with_reducible rfl)
          try simp only [Act.put, List.setIfInBounds_toArray, List.set_cons_zero, List.set_cons_succ, List.getElem_toArray, List.getElem_cons_succ, List.getElem_cons_zero]
          refine late_take (i := 1) (v := ?_) rfl (by kernel_rfl) (by kernel_rfl) (by kernel_rfl) (by kernel_rfl) (fun _ _ _ h => h) (Or.inl ⟨by rfl, ?_⟩) (by assumption) ?_
          rotate_left 1
          · (intro w' hSw; (try dsimp only at hSw); go_simp; try with_reducible rfl)
          try simp only [Act.put, List.setIfInBounds_toArray, List.set_cons_zero, List.set_cons_succ, List.getElem_toArray, List.getElem_cons_succ, List.getElem_cons_zero]
          refine late_take (i := 2) (v := ?_) rfl (by kernel_rfl) (by kernel_rfl) (by kernel_rfl) (by kernel_rfl) (fun _ _ _ h => h) (Or.inl ⟨by rfl, ?_⟩) (by assumption) ?_
          rotate_left 1
          · (intro w' hSw; (try dsimp only at hSw); go_simp; try with_reducible rfl)
          try simp only [Act.put, List.setIfInBounds_toArray, List.set_cons_zero, List.set_cons_succ, List.getElem_toArray, List.getElem_cons_succ, List.getElem_cons_zero]
          refine late_one (i := 3) (by kernel_rfl) rfl (fun K hK => ?_)
          go_simp
          (refine (below_acc _ (ER.out.next (Below.refl _ _).drew).d.cur (Only.refl _ _) (by omega) (by omega)).mono ?_; rintro e w3 ⟨x3, rfl, hx3, k3, o3⟩; have E3 : Hid (E8 B a0 len cap b w w3 lo (.slice sa fs.length sc) G fs b5 q (.slice s5 xs.length c5) xs) := (ER.out.next (Below.refl _ _).drew).draw o3 k3; have hS3 := E3.out.f2; have hw3 : IntKind.i64.wrap (1 + x3) = 1 + x3 := (by simp only [IntKind.wrap_i64, wrap64]; omega); have hb53 := E3.out.b1; have hlo3 := E3.out.d.z1)
          refine hK.out _ _ (by assumption) (fun _ => ?_)
          try simp only [Act.put, List.setIfInBounds_toArray, List.set_cons_zero, List.set_cons_succ, List.getElem_toArray, List.getElem_cons_succ, List.getElem_cons_zero]
          refine late_take (i := 4) (v := ?_) rfl (by kernel_rfl) (by kernel_rfl) (by kernel_rfl) (by kernel_rfl) (fun _ _ _ h => h) (Or.inl ⟨by rfl, ?_⟩) (by assumption) ?_
          rotate_left 1
          · (intro w' hSw; (try dsimp only at hSw); go_simp; try with_reducible rfl)
          try simp only [Act.put, List.setIfInBounds_toArray, List.set_cons_zero, List.set_cons_succ, List.getElem_toArray, List.getElem_cons_succ, List.getElem_cons_zero]
          refine late_one (i := 5) (by kernel_rfl) rfl (fun K hK => ?_)
          go_simp
          refine hK.out _ _ (((newB w3 (.cells #[.int .i64 (1 + x3)] 2)).cell (p := ⟨b5, 2, none⟩) hb53).trans E3.out.f2) (fun hS => ?_)
          try simp only [Act.put, List.setIfInBounds_toArray, List.set_cons_zero, List.set_cons_succ, List.getElem_toArray, List.getElem_cons_succ, List.getElem_cons_zero]
          refine late_one (i := 6) (by kernel_rfl) rfl (fun K hK => ?_)
          rw [if_pos (by rfl)]
          refine wp_append_two _ _ _ 51 rfl lo 2 i0 _ 1 8 Try.underlying51 hi0 hz0 hz1' hz2 rfl (by decide) _ _ _ rfl (row_next E3.out.row (newB _ _)) ⟨w3.heap.size, 0, none⟩ 1 1 [.int .i64 (1 + x3)] rfl rfl (one_news (by go_simp)) (fun u hu => by rw [List.mem_singleton] at hu; subst hu; rfl) (by unfold maxLen; omega) (by omega) (by simp; omega) (by decide) ?_
          intro v' w6 own6 gr6 two6
          obtain ⟨fa, fc, rfl⟩ := own_slice own6
          have E6 : Hid (E8 B a0 len cap b w (w6.setCell ⟨b5, 2, none⟩ (.slice fa (xs.length + 1) fc)) lo (.slice sa fs.length sc) G fs b5 q (.slice fa (xs.length + 1) fc) (xs ++ [1 + x3])) := E3.out.app (newB _ _) own6 gr6 two6 ⟨by omega, by omega⟩
          have hno : (Value.slice s5 xs.length c5).ownBlock ≠ some b5 := fun e' => by have := E3.out.hv b5 e'; omega
          have hbl : w6.heap[b5]? = w3.heap[b5]? := (gr6.block b5 (by simp; omega) (fun e' => hno e'.symm)).trans ((newB w3 _).block b5 hb53)
          have u2 : w6.cell? ⟨b5, 2, none⟩ = some (.slice s5 xs.length c5) := (World.cell?_of_block (a := ⟨b5, 2, none⟩) hbl).trans E3.out.f2
          have uf : w6.frozen? ⟨b5, 2, none⟩ = false := (World.frozen?_of_block (a := ⟨b5, 2, none⟩) hbl).trans (E3.out.ff 2)
          refine hK.out _ _ u2 (fun hS => ?_)
          try simp only [Act.put, List.setIfInBounds_toArray, List.set_cons_zero, List.set_cons_succ, List.getElem_toArray, List.getElem_cons_succ, List.getElem_cons_zero]
          refine late_take (i := 7) (v := ?_) rfl (by kernel_rfl) (by kernel_rfl) (by kernel_rfl) (by kernel_rfl) (fun _ _ _ h => h) (Or.inl ⟨by rfl, ?_⟩) (by assumption) ?_
          rotate_left 1
          · (intro w' hSw; (try dsimp only at hSw); go_simp; try with_reducible rfl)
          try simp only [Act.put, List.setIfInBounds_toArray, List.set_cons_zero, List.set_cons_succ, List.getElem_toArray, List.getElem_cons_succ, List.getElem_cons_zero]
          refine late_last (by kernel_rfl) rfl (by kernel_rfl) (fun K hK => ?_)
          go_simp
          refine hK.out _ _ ?_
          try simp only [Act.put, List.setIfInBounds_toArray, List.set_cons_zero, List.set_cons_succ, List.getElem_toArray, List.getElem_cons_succ, List.getElem_cons_zero]
          go_wp2
          go_roundw
          case rel => exact ⟨k, fa, fc, xs ++ [1 + x3], by go_num, by have := HK13.out; simp; omega, by (have h6 := E6.out; show E8 B a0 len cap b w _ lo (.slice sa fs.length sc) G fs b5 q (.slice fa (xs ++ [1 + x3]).length fc) (xs ++ [1 + x3]); rw [List.length_append]; exact h6)⟩
          case measure => first | (simp [intOf]; done) | (simp [intOf]; omega)
        | zero =>
          have hzr := ER.out.d.z1
          have hbr := ER.out.b1
          have HRW : Hid ((wr.alloc (.cells #[.int .i64 q, .int .i64 0, .slice s5 xs.length c5] 61)).ownsRow lo 61 3 (.slice sa fs.length sc) fs.length (flatF G)) := row_next ER.out.d.st.row (newB _ _)
          have ONE : Hid (∀ u ∈ [Value.int .i64 q, .int .i64 0, .slice s5 xs.length c5], u.oneCell' = true) := fun u hu => by
            simp only [List.mem_cons, List.not_mem_nil, or_false] at hu
            rcases hu with rfl | rfl | rfl <;> rfl
          have etf := ER.out.d.tf 0
          have et0z : w.heap.size + 1 < wr.heap.size := by omega
          go_upto_region 4 with (first | (at_builtin; refine wpList_append_own _ rfl _ _ 46 rfl lo 61 i1 _ 3 40 Try.underlying46 hj hy0 hy1 hy2 rfl (by decide) _ fs.length (flatF G) rfl HRW.out ⟨wr.heap.size, 0, none⟩ 1 1 [.int .i64 q, .int .i64 0, .slice s5 xs.length c5] rfl rfl (three_news (by go_simp) (by go_simp) (by go_simp)) ONE.out (by unfold maxLen; omega) (by omega) (by simp; omega) ?_; intro vF w6 own6 gr6 hnil; clear hnil; obtain ⟨fa, fc, rfl⟩ := own_slice own6; have hlo6 : ∀ k, k < lo → w6.heap[k]? = wr.heap[k]? := (fun k hk => (gr6.block k (by simp; omega) (fun e' => by have := (HRW.out.lt k e'.symm).1; omega)).trans ((newB wr _).block k (by omega))); have u0 : w6.cell? ⟨w.heap.size + 1, 0, none⟩ = some (.slice sa fs.length sc) := (World.cell?_of_block (a := ⟨w.heap.size + 1, 0, none⟩) (hlo6 _ (by show w.heap.size + 1 < lo; omega))).trans et0; have uf0 : w6.frozen? ⟨w.heap.size + 1, 0, none⟩ = false := (World.frozen?_of_block (a := ⟨w.heap.size + 1, 0, none⟩) (hlo6 _ (by show w.heap.size + 1 < lo; omega))).trans etf))
          have DP : Hid (D8 B a0 len cap b w (w6.setCell ⟨w.heap.size + 1, 0, none⟩ (.slice fa (fs.length + 1) fc)) lo (.slice fa (fs.length + 1) fc) (G ++ [(q, 0, .slice s5 xs.length c5)]) (fs ++ [(q, 0, xs)])) := ER.out.push (newB _ _) own6 gr6 hxl hq1
          go_wp2
          go_roundw
          case rel => exact ⟨j, fa, fc, _, fs ++ [(q, 0, xs)], by go_num, by have := HJN.out; simp; omega, by (have h6 := DP.out; show D8 B a0 len cap b w _ lo (.slice fa (fs ++ [(q, 0, xs)]).length fc) _ (fs ++ [(q, 0, xs)]); rw [List.length_append]; exact h6)⟩
          case measure => first | (simp [intOf]; done) | (simp [intOf]; omega)
    | zero =>
      have hNl : fs.length = N := by have := HJN.out; omega
      obtain ⟨g, hga⟩ : ∃ g, sa = some ⟨g, 0, none⟩ := by
        rcases DR.out.st.row.2 with ⟨e1, e2⟩ | ⟨g, cap', cur, e1, _⟩
        · omega
        · injection e1 with e1 _ _
          exact ⟨g, e1⟩
      subst hga
      have hcp : fs.length ≤ sc := by
        rcases DR.out.st.row.2 with ⟨e1, e2⟩ | ⟨g', cap', cur, e1, e2, e3, hcap, _⟩
        · omega
        · injection e1 with _ _ e4
          omega
      have T0 : Hid (T8 B a0 len cap b w wr lo g sc (G.map (·.2.2)) fs 0 true) := ⟨DR.out.cur, DR.out.only, DR.out.lt, DR.out.r0, DR.out.r1, DR.out.r2, DR.out.rf, DR.out.t0, DR.out.t1, DR.out.t2, DR.out.tf, DR.out.z0, DR.out.st.fr, new_turns (by omega) hfl DR.out.ok, hfl, hcp⟩
      clear DR hcp hNl
      go_wp2_with (first
        | (go_at_call 62; refine (below_acc 6 T0.out.cur (Only.refl _ _) (by omega) (by omega)).mono ?_; rintro e w4 ⟨x4, rfl, hx4, k4, o4⟩; have T4 : Hid (T8 B a0 len cap b w w4 lo g sc (G.map (·.2.2)) fs 0 true) := T0.out.draw o4 k4))
      obtain ⟨M, rfl⟩ := Int.eq_ofNat_of_zero_le hx4.1
      have hM : M ≤ 5 := by omega
      clear hx4 k4 o4 T0
      go_loopw [7] (fun i wr => ∃ (k : Nat) (vx : List Value) (fx : List F8) (ax : Int) (rx : Bool), i = .int .i64 k ∧ k ≤ 5 ∧ Hid (T8 B a0 len cap b w wr lo g sc vx fx ax rx)) (fun i _ => (intOf i).toNat)
      case atStart => exact ⟨M, _, fs, 0, true, rfl, hM, T4⟩
      case round =>
        clear T4
        obtain ⟨k, vx, fx, ax, rx, rfl, hk5, TR⟩ := hrel
        have hzw := TR.out.z0
        have hgg := TR.out.fr.fo.g0
        cases k with
        | succ k =>
          have hk1 : (0 : Int) < ((k + 1 : Nat) : Int) := by omega
          have CALL := l8Serve_two sc ax rx TR.out.fr.fo TR.out.ok (b8 := w.heap.size + 1) ⟨by omega, fun i hi e' => by have := ((TR.out.fr.fo.own i (by rw [← TR.out.fr.fo.len]; exact hi) hi).el e').1; omega⟩ (by have := TR.out.fr.fo.g1; omega) TR.out.t0 TR.out.t1 TR.out.t2 TR.out.tf
          go_wp2_with (first
            | (go_at_call 82; refine CALL.mono ?_; clear CALL; intro e w5 hp; obtain ⟨⟨vv, rfl⟩, vs5, T5⟩ := TR.out.serve hp; have T5 : Hid (T8 B a0 len cap b w w5 lo g sc vs5 (srvFs fx ax rx) (srvAt fx ax rx) (srvFr fx ax rx)) := T5; clear hp))
          go_roundw
          case rel => exact ⟨k, vs5, srvFs fx ax rx, srvAt fx ax rx, srvFr fx ax rx, by go_num, by omega, T5⟩
          case measure => first | (simp [intOf]; done) | (simp [intOf]; omega)
        | zero =>
          have q0 := TR.out.r0
          have q1 := TR.out.r1
          have q2 := TR.out.r2
          have qf := TR.out.rf
          have e0 := TR.out.t0
          have e1 := TR.out.t1
          have e2 := TR.out.t2
          go_wp2
          refine bodyPost_ret (results_one rfl _ _ _ [.slice (some ⟨g, 0, none⟩) fx.length sc, .int .i64 ax, .bool rx] rfl (put3_res (z0 := .slice none 0 0) (z1 := .int .i64 0) (z2 := .bool false) _ _ _ q0 q1 q2) Try.underlying48 rfl (by kernel_rfl)) rfl ?_
          have hI : OnlyI w.heap.size (w.heap.size + 1) wr (((wr.setCell ⟨w.heap.size, 0, none⟩ (.slice (some ⟨g, 0, none⟩) fx.length sc)).setCell ⟨w.heap.size, 1, none⟩ (.int .i64 ax)).setCell ⟨w.heap.size, 2, none⟩ (.bool rx)) :=
            (((OnlyI.refl _ _ _).setCell (by omega) (by omega) _).setCell (by omega) (by omega) _).setCell (by omega) (by omega) _
          have hBl : Below w.heap.size wr _ := hI.below (Nat.le_refl _) TR.out.only.size
          have htop := TR.out.fr.fo.top
          refine ⟨g, sc, vx, fx, ax, rx, rfl, TR.out.cp, ?_, TR.out.ok, TR.out.l4, TR.out.cur.under hBl TR.out.lt, ⟨hI.os.trans TR.out.only.os, hI.tape.trans TR.out.only.tape, hI.output.trans TR.out.only.output, Nat.le_trans TR.out.only.size hI.size, fun k hk hn => (hBl.block k hk).trans (TR.out.only.block k hk hn)⟩⟩
          exact (TR.out.fr.onlyI hI (.inr (by omega))).wider (by omega) hI.size (Nat.le_refl _)
end Go.Proofs.Ytdgefdjgpneanad
