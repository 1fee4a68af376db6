/- What spec.l8Copy answers. -/
import Derived.Test.YtdgefdjgpneanadFlwCp
import Derived.Test.YtdgefdjgpneanadGrpA
import Derived.Test.YtdgefdjgpneanadTurnMath
import Derived.Deep.RegionHeld3
import Derived.Deep.DeepCutAuto
namespace Go.Proofs.Ytdgefdjgpneanad
open Go.ChangeShapes Go.WideShapes Go.ChangeAt Go.RowKit
set_option maxRecDepth 100000
set_option linter.unusedVariables false
set_option linter.unusedSimpArgs false

/-- Flows that are appended one by one, each list a row of its own. -/
structure CpSt (w : World) (lo : Nat) (sF : Value) (G : List G8) (fs : List F8) : Prop where
  row : w.ownsRow lo 61 3 sF fs.length (flatF G)
  len : G.length = fs.length
  num : ∀ i (h : i < fs.length) (h' : i < G.length), G[i].1 = fs[i].1 ∧ G[i].2.1 = fs[i].2.1
  ints : ∀ i (h : i < fs.length) (h' : i < G.length), w.ownsRow lo 2 1 G[i].2.2 fs[i].2.2.length (flatI fs[i].2.2)
  sep : ∀ i (h' : i < G.length) b, G[i].2.2.ownBlock = some b → b < w.heap.size ∧ ∀ j (hj : j < G.length), j ≠ i → G[j].2.2.ownBlock ≠ some b
theorem CpSt.next {w w' : World} {lo : Nat} {sF : Value} {G : List G8} {fs : List F8} (h : CpSt w lo sF G fs) (hb : Below w.heap.size w w') : CpSt w' lo sF G fs :=
  ⟨row_next h.row hb, h.len, h.num, fun i h1 h2 => row_next (h.ints i h1 h2) hb, fun i k b e => ⟨Nat.lt_of_lt_of_le (h.sep i k b e).1 hb.size, (h.sep i k b e).2⟩⟩
theorem CpSt.set {w : World} {lo : Nat} {sF : Value} {G : List G8} {fs : List F8} (h : CpSt w lo sF G fs) {b i : Nat} (v : Value) (hb : b < lo) : CpSt (w.setCell ⟨b, i, none⟩ v) lo sF G fs :=
  ⟨row_set h.row hb, h.len, h.num, fun i h1 h2 => row_set (h.ints i h1 h2) hb, fun i k b e => ⟨by simpa using (h.sep i k b e).1, (h.sep i k b e).2⟩⟩
/-- Something new elsewhere is stored into. -/
theorem CpSt.onlyN {w w' : World} {lo B : Nat} {sF : Value} {G : List G8} {fs : List F8} (h : CpSt w lo sF G fs) (hB : Below B w w') (hle : w.heap.size ≤ B) : CpSt w' lo sF G fs := h.next (hB.mono hle)
/-- A flow more is appended. -/
theorem CpSt.push {w w' : World} {lo : Nat} {sF sF' : Value} {G : List G8} {fs : List F8} {q d : Int} {v : Value} {xs : List Int} (h : CpSt w lo sF G fs) (hv : w.ownsRow lo 2 1 v xs.length (flatI xs)) (hn : ∀ b, v.ownBlock = some b → b < w.heap.size ∧ ∀ j (hj : j < G.length), G[j].2.2.ownBlock ≠ some b)
    (hr : w'.ownsRow lo 61 3 sF' (fs.length + 1) (flatF G ++ [.int .i64 q, .int .i64 d, v])) (hg : w.grownBy w' sF.ownBlock) : CpSt w' lo sF' (G ++ [(q, d, v)]) (fs ++ [(q, d, xs)]) := by
  have hlen := h.len
  have hty : (2 : TypeId) ≠ 61 := by decide
  have keep : ∀ {u : Value} {m : Nat} {ys : List Value}, w.ownsRow lo 2 1 u m ys → w'.ownsRow lo 2 1 u m ys := fun hu => hu.kept (row := sF.ownBlock) hg (rows_keep hu h.row hty)
  have atG : ∀ i (hi : i < (G ++ [(q, d, v)]).length), (∃ h' : i < G.length, (G ++ [(q, d, v)])[i] = G[i]) ∨ (i = fs.length ∧ (G ++ [(q, d, v)])[i] = (q, d, v)) := fun i hi => by
    by_cases e : i < G.length
    · exact .inl ⟨e, List.getElem_append_left e⟩
    · have e2 : i = G.length := by simp at hi; omega
      refine .inr ⟨e2.trans hlen, ?_⟩
      subst e2
      simp
  refine ⟨?_, by simp [hlen], fun i h1 h2 => ?_, fun i h1 h2 => ?_, fun i h2 b e => ?_⟩
  · rw [flatF_append, List.length_append]
    exact hr
  · rcases atG i h2 with ⟨k, e⟩ | ⟨k, e⟩
    · have k' : i < fs.length := by omega
      rw [e, List.getElem_append_left k']
      exact h.num i k' k
    · rw [e]
      subst k
      simp
  · rcases atG i h2 with ⟨k, e⟩ | ⟨k, e⟩
    · have k' : i < fs.length := by omega
      rw [e, List.getElem_append_left k']
      exact keep (h.ints i k' k)
    · rw [e]
      subst k
      simp only [List.getElem_append_right (Nat.le_refl _), Nat.sub_self, List.getElem_cons_zero]
      exact keep hv
  · rcases atG i h2 with ⟨k, e1⟩ | ⟨k, e1⟩
    · rw [e1] at e
      obtain ⟨s1, s2⟩ := h.sep i k b e
      refine ⟨Nat.lt_of_lt_of_le s1 hg.size, fun j hj hne => ?_⟩
      rcases atG j hj with ⟨k2, e2⟩ | ⟨k2, e2⟩
      · rw [e2]; exact s2 j k2 hne
      · rw [e2]; intro e'; exact (hn b e').2 i k e
    · rw [e1] at e
      obtain ⟨s1, s2⟩ := hn b e
      refine ⟨Nat.lt_of_lt_of_le s1 hg.size, fun j hj hne => ?_⟩
      rcases atG j hj with ⟨k2, e2⟩ | ⟨k2, e2⟩
      · rw [e2]; exact s2 j k2
      · omega
theorem CpSt.fr {w : World} {lo g cap : Nat} {G : List G8} {fs : List F8} (h : CpSt w lo (.slice (some ⟨g, 0, none⟩) fs.length cap) G fs) : FR w lo w.heap.size g fs.length (G.map (·.2.2)) fs := by
  have hg := h.row.lt g rfl
  have hty : (2 : TypeId) ≠ 61 := by decide
  have hlen := h.len
  have at1 : ∀ i (hi : i < (G.map (·.2.2)).length), ∃ h' : i < G.length, (G.map (·.2.2))[i] = G[i].2.2 := fun i hi => ⟨by simpa using hi, by simp⟩
  refine ⟨⟨hg.1, hg.2, Nat.le_refl _, by simp [hlen], Nat.le_refl _, fun j hj => ⟨?_, h.row.frozenAt j⟩, fun i h1 h2 => ?_, fun i h1 h2 => ?_, fun i h2 e => ?_, fun i j h2 h3 hne b e e' => ?_⟩, fun i h1 h2 => ?_, fun i h2 b e => ?_⟩
  · have hl : j < (flatF G).length := by rw [flatF_length, hlen]; exact hj
    exact ⟨_, (h.row.cellAt j hj).trans (List.getElem?_eq_getElem hl)⟩
  · obtain ⟨k, e⟩ := at1 i h2
    rw [e]
    obtain ⟨e0, e1, e2⟩ := flatF_get G i k
    obtain ⟨n0, n1⟩ := h.num i h1 k
    rw [n0] at e0
    rw [n1] at e1
    exact ⟨(h.row.cellAt _ (by omega)).trans e0, (h.row.cellAt _ (by omega)).trans e1, (h.row.cellAt _ (by omega)).trans e2⟩
  · obtain ⟨k, e⟩ := at1 i h2
    rw [e]
    exact (own_ints (h.ints i h1 k)).io
  · obtain ⟨k, e1⟩ := at1 i h2
    rw [e1] at e
    have o := h.ints i (by omega) k
    exact rows_apart o h.row hty g (el_own o e) rfl
  · obtain ⟨k, e1⟩ := at1 i h2
    obtain ⟨k2, e2⟩ := at1 j h3
    rw [e1] at e
    rw [e2] at e'
    exact (h.sep i k b (el_own (h.ints i (by omega) k) e)).2 j k2 (fun e => hne e.symm) (el_own (h.ints j (by omega) k2) e')
  · obtain ⟨k, e⟩ := at1 i h2
    rw [e]
    exact h.ints i h1 k
  · obtain ⟨k, e1⟩ := at1 i h2
    rw [e1] at e
    obtain ⟨s1, s2⟩ := h.sep i k b e
    refine ⟨fun e' => rows_apart (h.ints i (by omega) k) h.row hty b e (by rw [e']; rfl), s1, fun j hj hne => ?_⟩
    obtain ⟨k2, e2⟩ := at1 j hj
    rw [e2]
    exact s2 j k2 hne
theorem three_news {w : World} {g : Nat} {a b c : Value} (h0 : w.cell? ⟨g, 0, none⟩ = some a) (h1 : w.cell? ⟨g, 1, none⟩ = some b) (h2 : w.cell? ⟨g, 2, none⟩ = some c) : ∀ j v, [a, b, c][j]? = some v → w.cell? ((⟨g, 0, none⟩ : Addr).add j) = some v := by
  intro j v hv
  match j, hv with
  | 0, hv => obtain rfl : a = v := by simpa using hv
             exact h0
  | 1, hv => obtain rfl : b = v := by simpa using hv
             simpa [Addr.add] using h1
  | 2, hv => obtain rfl : c = v := by simpa using hv
             simpa [Addr.add] using h2
theorem put3_out {w : World} {g : Nat} (a b c : Value) {z0 z1 z2 : Value} (h0 : w.cell? ⟨g, 0, none⟩ = some z0) (h1 : w.cell? ⟨g, 1, none⟩ = some z1) (h2 : w.cell? ⟨g, 2, none⟩ = some z2) :
    ∀ j v, [a, b, c][j]? = some v → (((w.setCell ⟨g, 0, none⟩ a).setCell ⟨g, 1, none⟩ b).setCell ⟨g, 2, none⟩ c).cell? ⟨g, j, none⟩ = some v := by
  have h := put3_same (o := 0) a b c h0 h1 h2
  intro j v hv
  match j, hv with
  | 0, hv => obtain rfl : a = v := by simpa using hv
             exact h.1
  | 1, hv => obtain rfl : b = v := by simpa using hv
             exact h.2.1
  | 2, hv => obtain rfl : c = v := by simpa using hv
             exact h.2.2
set_option maxHeartbeats 8000000 in
theorem l8Copy_any {w : World} {a : Option Addr} (c : Nat) {fs : List F8} (at' : Int) (fresh : Bool) (h : Fls w.heap.size w a fs) (h0 : 0 < fs.length) (hl : fs.length ≤ 1048576) (hs : ∀ f ∈ fs, f.2.2.length ≤ 1048576) :
    Calls Try.prog 81 #[turnV a fs.length c at' fresh] w (CpPost8 w fs at' fresh) := by
  obtain ⟨i0, hi, hz0, hz1, hz2⟩ := info_parts info_int
  obtain ⟨i1, hj, hy0, hy1, hy2⟩ := info_parts info_flow
  obtain ⟨v, hv⟩ : ∃ v, v = ((w.alloc (.cells #[.slice a fs.length c, .int .i64 at', .bool fresh] 48)).alloc (.cells #[.slice none 0 0, .int .i64 0, .bool false] 48)).alloc (.cells #[.slice none 0 0, .int .i64 at', .bool fresh] 48) := ⟨_, rfl⟩
  have KV : Hid (Kept w [(w.heap.size, 0, .slice a fs.length c), (w.heap.size + 1, 0, .slice none 0 0), (w.heap.size + 1, 1, .int .i64 0), (w.heap.size + 1, 2, .bool false), (w.heap.size + 2, 1, .int .i64 at'), (w.heap.size + 2, 2, .bool fresh), (w.heap.size + 2, 0, .slice none 0 0)] [w.heap.size + 1, w.heap.size + 2] v) := by
    rw [hv]
    refine ⟨⟨⟨by simp <;> omega, by go_simp⟩, ⟨by simp <;> omega, by go_simp⟩, ⟨by simp <;> omega, by go_simp⟩, ⟨by simp <;> omega, by go_simp⟩, ⟨by simp, by go_simp⟩, ⟨by simp, by go_simp⟩, ⟨by simp, by go_simp⟩, trivial⟩, fun b hb => ?_, by go_grown⟩
    simp only [List.mem_cons, List.not_mem_nil, or_false] at hb
    rcases hb with rfl | rfl
    · exact ⟨by simp <;> omega, fun o => by go_simp⟩
    · exact ⟨by simp, fun o => by go_simp⟩
  have hvz : v.heap.size ≤ w.heap.size + 3 ∧ w.heap.size + 3 ≤ v.heap.size := by rw [hv]; simp
  have hli : (fs.length : Int) ≤ 1048576 := by omega
  go_enter Try.func81, Try.ntmps81
  go_upto_region 3 with (fail)
  rw [← hv]
  clear hv
  have C0 : CpSt v v.heap.size (.slice none 0 0) [] (fs.take 0) := ⟨⟨rfl, .inl ⟨rfl, rfl⟩⟩, rfl, fun i h => by simp at h, fun i h => by simp at h, fun i h => by cases h⟩
  go_loopw [4] (fun i wr => ∃ (k : Nat) (sa0 : Option Addr) (sc0 : Nat) (G : List G8), i = .int .i64 k ∧ k ≤ fs.length ∧ CpSt wr v.heap.size (.slice sa0 k sc0) G (fs.take k) ∧ Below w.heap.size w wr ∧ Kept w [(w.heap.size, 0, .slice a fs.length c), (w.heap.size + 1, 0, .slice none 0 0), (w.heap.size + 1, 1, .int .i64 0), (w.heap.size + 1, 2, .bool false), (w.heap.size + 2, 1, .int .i64 at'), (w.heap.size + 2, 2, .bool fresh), (w.heap.size + 2, 0, .slice sa0 k sc0)] [w.heap.size + 1, w.heap.size + 2] wr) (fun i _ => fs.length - (intOf i).toNat)
  case atStart => exact ⟨0, none, 0, [], rfl, by omega, C0, KV.out.hb, KV.out⟩
  case round =>
    have hvz2 := KV.out.hb.size
    clear C0 KV
    obtain ⟨k, sa0, sc0, G, rfl, hk, st, hbr, kp⟩ := hrel
    by_cases hlt : k < fs.length
    · have hlt' : (k : Int) < (fs.length : Int) := by omega
      obtain ⟨b, off, sa, sc, rfl, hbl, c0, c1, c2, sm⟩ := h.at hbr k hlt
      have KR : Hid (Kept w [(w.heap.size, 0, .slice (some ⟨b, off, none⟩) fs.length c), (w.heap.size + 1, 0, .slice none 0 0), (w.heap.size + 1, 1, .int .i64 0), (w.heap.size + 1, 2, .bool false), (w.heap.size + 2, 1, .int .i64 at'), (w.heap.size + 2, 2, .bool fresh), (w.heap.size + 2, 0, .slice sa0 k sc0)] [w.heap.size + 1, w.heap.size + 2] wr) := kp
      have ⟨⟨z0, k0⟩, _⟩ := kp.cells
      have hq3 : w.heap.size + 2 < wr.heap.size := kp.cells.2.2.2.2.1.1
      clear kp
      have hbw : b < wr.heap.size := Nat.lt_of_lt_of_le hbl hbr.size
      have hxl := hs _ (List.getElem_mem hlt)
      have HT : Hid (fs.take (k + 1) = fs.take k ++ [fs[k]]) := List.take_succ_eq_append_getElem hlt
      obtain ⟨q, d, xs, hx⟩ : ∃ q d xs, fs[k] = (q, d, xs) := ⟨_, _, _, rfl⟩
      rw [hx] at c0 c1 c2 sm hxl HT
      simp only at c0 c1 c2 sm hxl
      clear hx
      have hlen : (fs.take k).length = k := by rw [List.length_take]; omega
      have HST : Hid (CpSt wr v.heap.size (.slice sa0 k sc0) G (fs.take k)) := st
      have hGl := st.len
      rw [hlen] at hGl
      have HSP : Hid (∀ j (hj : j < G.length) b, G[j].2.2.ownBlock = some b → b < wr.heap.size) := fun j hj b e => (st.sep j hj b e).1
      have hrl : ∀ g, (Value.slice sa0 k sc0).ownBlock = some g → v.heap.size ≤ g ∧ g < wr.heap.size := fun g hg => st.row.lt g hg
      clear st
      go_upto_region 6 with (fail)
      obtain ⟨v5, hv5⟩ : ∃ v5, v5 = wr.alloc (.cells #[.int .i64 q, .int .i64 d, .slice sa xs.length sc] 61) := ⟨_, rfl⟩
      rw [← hv5]
      have hbA : Below wr.heap.size wr v5 := by rw [hv5]; exact newB _ _
      obtain ⟨b5, hb5e⟩ : ∃ b, b = wr.heap.size := ⟨_, rfl⟩
      rw [← hb5e]
      have K5 : Hid (Kept v5 [(b5, 0, .int .i64 q), (b5, 1, .int .i64 d), (b5, 2, .slice sa xs.length sc)] [b5] v5) := by
        rw [hv5, hb5e]
        refine ⟨⟨⟨by simp, by go_simp⟩, ⟨by simp, by go_simp⟩, ⟨by simp, by go_simp⟩, trivial⟩, fun b hb => ?_, Below.refl _ _⟩
        simp only [List.mem_cons, List.not_mem_nil, or_false] at hb
        subst hb
        exact ⟨by simp, fun o => by go_simp⟩
      have h5z : v5.heap.size ≤ wr.heap.size + 1 ∧ wr.heap.size + 1 ≤ v5.heap.size := by rw [hv5]; simp
      have lb5 : wr.heap.size ≤ b5 ∧ b5 ≤ wr.heap.size := by omega
      clear hv5 hb5e
      have KR5 : Hid (Kept w [(w.heap.size, 0, .slice (some ⟨b, off, none⟩) fs.length c), (w.heap.size + 1, 0, .slice none 0 0), (w.heap.size + 1, 1, .int .i64 0), (w.heap.size + 1, 2, .bool false), (w.heap.size + 2, 1, .int .i64 at'), (w.heap.size + 2, 2, .bool fresh), (w.heap.size + 2, 0, .slice sa0 k sc0)] [w.heap.size + 1, w.heap.size + 2] v5) := KR.out.next hbA
      have HST5 : Hid (CpSt v5 v.heap.size (.slice sa0 k sc0) G (fs.take k)) := HST.out.next hbA
      have ⟨⟨y0, i0'⟩, ⟨y1, i1'⟩, ⟨y2, i2'⟩, _⟩ := K5.out.cells
      have hb5w : Below w.heap.size w v5 := KR5.out.hb
      have HSM : Hid (ISmp w.heap.size (v5.alloc (.cells #[] 2)) sa xs) := (sm.mono (hbA.mono hbr.size)).mono ((newB v5 _).mono hb5w.size)
      clear KR HST z0 k0 c0 c1 c2 sm hbw
      go_upto_region 7 with (first | (at_builtin; refine wpList_append_smp (by rfl) _ _ 51 rfl v5.heap.size 2 i0 _ Try.underlying51 hi hz0 hz1 hz2 rfl _ 0 [] rfl (own_none1 v5 _ _ rfl (Nat.le_refl _) _) sa sc w.heap.size xs rfl HSM.out (by omega) (by simp) ?_; intro v' w3 own3 gr3; have hb3 : Below v5.heap.size v5 w3 := ((Below.refl _ v5).alloc (Nat.le_refl _) _).grown gr3 (by simp) (fun k hk => Nat.le_of_eq (Option.some.inj hk)); rw [Nat.zero_add, List.nil_append] at own3; obtain ⟨va, ca, rfl⟩ := own_slice own3; have K3 : Hid (Kept v5 [(b5, 0, .int .i64 q), (b5, 1, .int .i64 d), (b5, 2, .slice sa xs.length sc)] [b5] w3) := K5.out.next hb3; have ⟨⟨x0, j0⟩, ⟨x1, j1⟩, ⟨x2, j2⟩, _⟩ := K3.out.cells; have f3 := (K3.out.free b5 (by simp)).2))
      obtain ⟨w4, hw4⟩ : ∃ w4, w4 = w3.setCell ⟨b5, 2, none⟩ (.slice va xs.length ca) := ⟨_, rfl⟩
      rw [← hw4]
      have hb4 : Below wr.heap.size wr w4 := by
        rw [hw4]
        exact (below_step hbA hb3).setCell (by show wr.heap.size ≤ b5; omega) _
      have own4 : w4.ownsRow v5.heap.size 2 1 (.slice va xs.length ca) xs.length (flatI xs) := by rw [hw4]; exact row_set own3 (by omega)
      have m0 : w4.cell? ⟨b5, 0, none⟩ = some (.int .i64 q) := by rw [hw4]; exact (set_other (by decide)).trans j0
      have m1 : w4.cell? ⟨b5, 1, none⟩ = some (.int .i64 d) := by rw [hw4]; exact (set_other (by decide)).trans j1
      have m2 : w4.cell? ⟨b5, 2, none⟩ = some (.slice va xs.length ca) := by rw [hw4]; exact set_same _ j2
      have KR4 : Hid (Kept w [(w.heap.size, 0, .slice (some ⟨b, off, none⟩) fs.length c), (w.heap.size + 1, 0, .slice none 0 0), (w.heap.size + 1, 1, .int .i64 0), (w.heap.size + 1, 2, .bool false), (w.heap.size + 2, 1, .int .i64 at'), (w.heap.size + 2, 2, .bool fresh), (w.heap.size + 2, 0, .slice sa0 k sc0)] [w.heap.size + 1, w.heap.size + 2] w4) := by
        rw [hw4]
        refine (KR5.out.next hb3).onlyO (row := some b5) (OnlyO.of_only ((Only.refl b5 w3).setCell rfl _)) (fun j e => by have e := Option.some.inj e; omega) (fun c hc e => ?_) (fun b hb e => ?_)
        · have e := Option.some.inj e
          simp only [List.mem_cons, List.not_mem_nil, or_false] at hc
          rcases hc with rfl | rfl | rfl | rfl | rfl | rfl | rfl <;> simp only at e <;> omega
        · have e := Option.some.inj e
          simp only [List.mem_cons, List.not_mem_nil, or_false] at hb
          omega
      have ST4 : Hid (CpSt w4 v.heap.size (.slice sa0 k sc0) G (fs.take k)) := by
        have hx : CpSt w3 v.heap.size (.slice sa0 k sc0) G (fs.take k) := HST5.out.next hb3
        have e1 : Below wr.heap.size w3 w4 := by rw [hw4]; exact (Below.refl _ _).setCell (by show wr.heap.size ≤ b5; omega) _
        refine ⟨hx.row.kept (row := some b5) (by rw [hw4]; exact grown_set _ _ _ _) ?_, hx.len, hx.num, fun i h1 h2 => (hx.ints i h1 h2).kept (row := some b5) (by rw [hw4]; exact grown_set _ _ _ _) ?_, fun i k b e => ⟨by rw [hw4]; simpa using (hx.sep i k b e).1, (hx.sep i k b e).2⟩⟩
        · cases ho : (Value.slice sa0 k sc0).ownBlock with
          | none => exact .inl rfl
          | some g => exact .inr (fun e => by have := (hrl g ho).2; have e := Option.some.inj e; omega)
        · cases ho : G[i].2.2.ownBlock with
          | none => exact .inl rfl
          | some g => exact .inr (fun e => by have := HSP.out i h2 g ho; have e := Option.some.inj e; omega)
      have OW4 : Hid (w4.ownsRow v5.heap.size 2 1 (.slice va xs.length ca) xs.length (flatI xs)) := own4
      have h4z := hb4.size
      have hz34 : w4.heap.size ≤ w3.heap.size ∧ w3.heap.size ≤ w4.heap.size := by rw [hw4]; simp
      have hz35 := hb3.size
      clear hw4 own4 own3 K3 K5 KR5 HST5 y0 y1 y2 i0' i1' i2' x0 x1 x2 j0 j1 j2 f3 HSM gr3
      have ⟨⟨z0, k0⟩, ⟨z1, k1⟩, ⟨z2, k2⟩, ⟨z3, k3⟩, ⟨z4, k4⟩, ⟨z5, k5⟩, ⟨z6, k6⟩, _⟩ := KR4.out.cells
      have hb5l : b5 < w4.heap.size := by omega
      have STA : Hid (CpSt (w4.alloc (.cells #[.int .i64 q, .int .i64 d, .slice va xs.length ca] 61)) v.heap.size (.slice sa0 k sc0) G (fs.take k)) := ST4.out.next (newB _ _)
      have HW : Hid ((w4.alloc (.cells #[.int .i64 q, .int .i64 d, .slice va xs.length ca] 61)).ownsRow v.heap.size 61 3 (.slice sa0 k sc0) k (flatF G)) := by
        have := STA.out.row
        rw [hlen] at this
        exact this
      have ONE : Hid (∀ u ∈ [Value.int .i64 q, .int .i64 d, .slice va xs.length ca], u.oneCell' = true) := fun u hu => by
        simp only [List.mem_cons, List.not_mem_nil, or_false] at hu
        rcases hu with rfl | rfl | rfl <;> rfl
      go_wp2_with (first | (at_builtin; refine wpList_append_own _ rfl _ _ 46 rfl v.heap.size 61 i1 _ 3 40 Try.underlying46 hj hy0 hy1 hy2 rfl (by decide) _ k (flatF G) rfl HW.out ⟨w4.heap.size, 0, none⟩ 1 1 [.int .i64 q, .int .i64 d, .slice va xs.length ca] rfl rfl (three_news (by go_simp) (by go_simp) (by go_simp)) ONE.out (by unfold maxLen; omega) (by omega) (by simp; omega) ?_; intro vF w6 own6 gr6 hnil; clear hnil; obtain ⟨fa, fc, rfl⟩ := own_slice own6; have hb6 : Below w4.heap.size w4 w6 → True := fun _ => trivial; have KA6 : Hid (Kept w [(w.heap.size, 0, .slice (some ⟨b, off, none⟩) fs.length c), (w.heap.size + 1, 0, .slice none 0 0), (w.heap.size + 1, 1, .int .i64 0), (w.heap.size + 1, 2, .bool false), (w.heap.size + 2, 1, .int .i64 at'), (w.heap.size + 2, 2, .bool fresh), (w.heap.size + 2, 0, .slice sa0 k sc0)] [w.heap.size + 1, w.heap.size + 2] w6) := (KR4.out.next (newB _ _)).onlyO (OnlyO.of_grown gr6) (fun j e => by have := hrl j e; omega) (fun c hc e => by (have := hrl c.1 e; simp only [List.mem_cons, List.not_mem_nil, or_false] at hc; rcases hc with rfl | rfl | rfl | rfl | rfl | rfl | rfl <;> simp only at this <;> omega)) (fun b hb e => by (have := hrl b e; simp only [List.mem_cons, List.not_mem_nil, or_false] at hb; omega)); have ⟨⟨p0, n0⟩, ⟨p1, n1⟩, ⟨p2, n2⟩, ⟨p3, n3⟩, ⟨p4, n4⟩, ⟨p5, n5⟩, ⟨p6, n6⟩, _⟩ := KA6.out.cells; have f6 := (KA6.out.free (w.heap.size + 2) (by simp)).2))
      have OWA : (w4.alloc (.cells #[.int .i64 q, .int .i64 d, .slice va xs.length ca] 61)).ownsRow v.heap.size 2 1 (.slice va xs.length ca) xs.length (flatI xs) := row_lower (row_next OW4.out (newB _ _)) (by omega)
      have hp := STA.out.push (q := q) (d := d) OWA (fun b e => by
        have h1 := OW4.out.lt b e
        refine ⟨by simp; omega, fun j hj e' => ?_⟩
        have := HSP.out j hj b e'
        omega) (by rw [hlen]; exact own6) gr6
      rw [← HT.out] at hp
      go_roundw
      case rel =>
        refine ⟨k + 1, fa, fc, _, by go_num, by omega, hp.set _ (by omega), ?_, ?_⟩
        · exact KA6.out.hb.setCell (by show w.heap.size ≤ w.heap.size + 2; omega) _
        · have kp := KA6.out.put (w.heap.size + 2) 0 (.slice fa (k + 1) fc) (by omega)
          refine ⟨?_, kp.free, kp.hb⟩
          have ⟨e0, e1, e2, e3, e4, e5, e6, _⟩ := kp.cells
          simp at e0 e1 e2 e3 e4 e5 e6
          exact ⟨⟨by simpa using e0.1, e0.2⟩, ⟨by simpa using e1.1, e1.2⟩, ⟨by simpa using e2.1, e2.2⟩, ⟨by simpa using e3.1, e3.2⟩, ⟨by simpa using e4.1, e4.2⟩, ⟨by simpa using e5.1, e5.2⟩, ⟨by simpa using e6.1, e6.2⟩, trivial⟩
      case measure => first | (simp [intOf]; done) | (simp [intOf]; omega)
    · have e : k = fs.length := by omega
      subst e
      rw [List.take_length] at st
      have ⟨⟨z0, k0⟩, ⟨z1, k1⟩, ⟨z2, k2⟩, ⟨z3, k3⟩, ⟨z4, k4⟩, ⟨z5, k5⟩, ⟨z6, k6⟩, _⟩ := kp.cells
      have fr1 := (kp.free (w.heap.size + 1) (by simp)).2
      rcases st.row.2 with ⟨e1, e2⟩ | ⟨g, cap', cur, e1, e2, e3, hcap, _⟩
      · omega
      · injection e1 with e1 _ e4
        subst e1 e4
        have HF : Hid (FR wr v.heap.size wr.heap.size g fs.length (G.map (·.2.2)) fs) := st.fr
        clear st
        go_wp2
        refine bodyPost_ret (results_one rfl _ _ _ [.slice (some ⟨g, 0, none⟩) fs.length sc0, .int .i64 at', .bool fresh] rfl (put3_out (z0 := .slice none 0 0) (z1 := .int .i64 0) (z2 := .bool false) _ _ _ k1 k2 k3) Try.underlying48 rfl (by kernel_rfl)) rfl ?_
        have hI : OnlyI (w.heap.size + 1) v.heap.size wr (((wr.setCell ⟨w.heap.size + 1, 0, none⟩ (.slice (some ⟨g, 0, none⟩) fs.length sc0)).setCell ⟨w.heap.size + 1, 1, none⟩ (.int .i64 at')).setCell ⟨w.heap.size + 1, 2, none⟩ (.bool fresh)) :=
          (((OnlyI.refl _ _ _).setCell (by omega) (by omega) _).setCell (by omega) (by omega) _).setCell (by omega) (by omega) _
        have hF := (HF.out.onlyI hI (.inr (Nat.le_refl _))).wider (lo' := w.heap.size) (hi' := wr.heap.size) (by omega) (Nat.le_refl _) (by simp)
        refine ⟨g, sc0, G.map (·.2.2), rfl, hcap, ?_, hbr.trans (hI.below (by omega) (by have := hbr.size; omega))⟩
        have hsz : (((wr.setCell ⟨w.heap.size + 1, 0, none⟩ (.slice (some ⟨g, 0, none⟩) fs.length sc0)).setCell ⟨w.heap.size + 1, 1, none⟩ (.int .i64 at')).setCell ⟨w.heap.size + 1, 2, none⟩ (.bool fresh)).heap.size = wr.heap.size := by simp
        rw [hsz]
        exact hF
end Go.Proofs.Ytdgefdjgpneanad
