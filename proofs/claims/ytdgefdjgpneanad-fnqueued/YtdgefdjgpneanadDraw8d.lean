/- The draw of any Turns. -/
import Derived.Test.YtdgefdjgpneanadDraw8c
import Derived.Deep.CutBlock
namespace Go.Proofs.Ytdgefdjgpneanad
open Go.ChangeShapes Go.WideShapes Go.ChangeAt Go.RowKit
set_option maxRecDepth 100000
set_option linter.unusedVariables false
set_option linter.unusedSimpArgs false

theorem tabQ8_in (X : Nat) (h : X < 4) : ∃ y : Int, (#[Value.int IntKind.i64 1499, Value.int IntKind.i64 1500, Value.int IntKind.i64 1000000000, Value.int IntKind.i64 1000000001] : Array Value)[X]? = some (.int .i64 y) := by
  match X, h with
  | 0, _ => exact ⟨_, rfl⟩
  | 1, _ => exact ⟨_, rfl⟩
  | 2, _ => exact ⟨_, rfl⟩
  | 3, _ => exact ⟨_, rfl⟩
theorem tabD8_in (q : Int) (X : Nat) (h : X < 6) : ∃ y : Int, (#[Value.int IntKind.i64 (-1), Value.int IntKind.i64 1, Value.int IntKind.i64 1499, Value.int IntKind.i64 1500, Value.int IntKind.i64 (IntKind.i64.wrap (q + 1500)), Value.int IntKind.i64 (IntKind.i64.wrap (q + 1501))] : Array Value)[X]? = some (.int .i64 y) := by
  match X, h with
  | 0, _ => exact ⟨_, rfl⟩
  | 1, _ => exact ⟨_, rfl⟩
  | 2, _ => exact ⟨_, rfl⟩
  | 3, _ => exact ⟨_, rfl⟩
  | 4, _ => exact ⟨_, rfl⟩
  | 5, _ => exact ⟨_, rfl⟩
theorem tabA8_in (n : Nat) (X : Nat) (h : X < 3) : ∃ y : Int, (#[Value.int IntKind.i64 (-1), Value.int IntKind.i64 (n : Int), Value.int IntKind.i64 0] : Array Value)[X]? = some (.int .i64 y) := by
  match X, h with
  | 0, _ => exact ⟨_, rfl⟩
  | 1, _ => exact ⟨_, rfl⟩
  | 2, _ => exact ⟨_, rfl⟩
theorem tabS8_in (X : Nat) (h : X < 3) : ∃ y : Int, (#[Value.int IntKind.i64 0, Value.int IntKind.i64 1501, Value.int IntKind.i64 7] : Array Value)[X]? = some (.int .i64 y) := by
  match X, h with
  | 0, _ => exact ⟨_, rfl⟩
  | 1, _ => exact ⟨_, rfl⟩
  | 2, _ => exact ⟨_, rfl⟩
theorem row_eq {W : World} {base : Nat} {e : TypeId} {u v : Value} {xs ys : List Int} (h : W.ownsRow base e 1 u xs.length (flatI xs)) (e1 : u = v) (e2 : xs = ys) : W.ownsRow base e 1 v ys.length (flatI ys) := by subst e1 e2; exact h
theorem row_len {W : World} {base : Nat} {e : TypeId} {v : Value} {xs ys : List Int} {z : Value} (h : W.ownsRow base e 1 v (ys.length + 1) (flatI ys ++ [z])) (e2 : xs = ys) : W.ownsRow base e 1 v (xs.length + 1) (flatI xs ++ [z]) := by subst e2; exact h
theorem U8.at {B : Nat} {a0 : Option Addr} {len cap b : Nat} {w wr : World} {bT c : Nat} {ad : Option Addr} {fs : List F8} {a : Int} {f : Bool} (h : U8 B a0 len cap b w wr bT ad c fs a f) (z : Int) : U8 B a0 len cap b w (wr.setCell ⟨bT, 1, none⟩ (.int .i64 z)) bT ad c fs z f := by
  refine ⟨h.v.set1 z, ?_, h.l4, h.le⟩
  rcases h.own with e | ⟨g, vs, e, hc, fo, ap⟩
  · exact .inl e
  · have os : Only bT wr (wr.setCell ⟨bT, 1, none⟩ (.int .i64 z)) := (Only.refl bT wr).setCell (p := ⟨bT, 1, none⟩) rfl _
    exact .inr ⟨g, vs, e, hc, by simpa using fo.only8 os ap, ap⟩
theorem P8.begin {B : Nat} {a0 : Option Addr} {len cap b : Nat} {w w1 : World} {g c : Nat} {vs : List Value} {fs : List F8} {at' : Int} {fresh : Bool} (kc : Cur B a0 len cap b w) (k1 : Cur B a0 len cap b w1) (o1 : Only b (w.alloc (.cells #[.slice none 0 0, .int .i64 0, .bool false] 48)) w1)
    (fr1 : FR w1 (w.alloc (.cells #[.slice none 0 0, .int .i64 0, .bool false] 48)).heap.size w1.heap.size g fs.length vs fs) (ok : TurnsOk fs at' fresh) (l4 : fs.length ≤ 4) (cp : fs.length ≤ c) :
    P8 B a0 len cap b w (w1.alloc (.cells #[.slice (some ⟨g, 0, none⟩) fs.length c, .int .i64 at', .bool fresh] 48)) w1.heap.size g c vs fs at' fresh := by
  have hb := kc.hi
  have hz := o1.size
  simp at hz
  have hz' : w.heap.size < w1.heap.size := by omega
  have hc : ∀ o : Nat, w1.cell? ⟨w.heap.size, o, none⟩ = (w.alloc (.cells #[.slice none 0 0, .int .i64 0, .bool false] 48)).cell? ⟨w.heap.size, o, none⟩ := fun o => o1.cell (p := ⟨w.heap.size, o, none⟩) (by show w.heap.size < _; simp) (by show w.heap.size ≠ b; omega)
  have hf : ∀ o : Nat, w1.frozen? ⟨w.heap.size, o, none⟩ = (w.alloc (.cells #[.slice none 0 0, .int .i64 0, .bool false] 48)).frozen? ⟨w.heap.size, o, none⟩ := fun o => o1.frozen (p := ⟨w.heap.size, o, none⟩) (by show w.heap.size < _; simp) (by show w.heap.size ≠ b; omega)
  have nb := newB w1 (.cells #[.slice (some ⟨g, 0, none⟩) fs.length c, .int .i64 at', .bool fresh] 48)
  have hlo : (w.alloc (.cells #[.slice none 0 0, .int .i64 0, .bool false] 48)).heap.size = w.heap.size + 1 := by simp
  rw [hlo] at fr1
  refine ⟨⟨k1.mono nb, (((Only.refl b w).alloc _).trans o1).trans (Only.of_below nb), hb, (nb.cell (p := ⟨w.heap.size, 0, none⟩) hz').trans ((hc 0).trans (by go_simp)), (nb.cell (p := ⟨w.heap.size, 1, none⟩) hz').trans ((hc 1).trans (by go_simp)), (nb.cell (p := ⟨w.heap.size, 2, none⟩) hz').trans ((hc 2).trans (by go_simp)), fun o => (nb.frozen (p := ⟨w.heap.size, o, none⟩) hz').trans ((hf o).trans (by go_simp)), by go_simp, by go_simp, by go_simp, fun o => by go_simp, hz', by simp⟩, fr1.next nb, ok.l0, l4, cp, fun x hx => ?_⟩
  obtain ⟨k, hk, rfl⟩ := List.mem_iff_getElem.1 hx
  exact (ok.flow k hk).len
set_option maxHeartbeats 16000000 in
theorem l8DrawAny_acc {B : Nat} {a0 : Option Addr} {len cap b : Nat} {w : World} (kc : Cur B a0 len cap b w) :
    Calls Try.prog 77 #[.pointer (some ⟨b, 0, none⟩)] w (V8Post B a0 len cap b w) := by
  obtain ⟨i0, hi0, hz0, hz1', hz2⟩ := info_parts info_int
  have hbw := kc.hi
  go_enter Try.func77, Try.ntmps77
  go_upto_region 2 with (first
    | (go_at_call 119; refine (l8Draw_acc (kc.alloc _)).mono ?_; rintro e w1 ⟨g, c, vs, fs, at', fresh, rfl, hcp, fr1, ok1, l41, k1, o1⟩; have FR1 : Hid (FR w1 (w.alloc (.cells #[.slice none 0 0, .int .i64 0, .bool false] 48)).heap.size w1.heap.size g fs.length vs fs) := fr1; clear fr1))
  obtain ⟨v, hv⟩ : ∃ v, v = w1.alloc (.cells #[.slice (some ⟨g, 0, none⟩) fs.length c, .int .i64 at', .bool fresh] 48) := ⟨_, rfl⟩
  rw [← hv]
  obtain ⟨bT, hbT⟩ : ∃ b, b = w1.heap.size := ⟨_, rfl⟩
  have P1 : Hid (P8 B a0 len cap b w v bT g c vs fs at' fresh) := by rw [hv, hbT]; exact P8.begin kc k1 o1 FR1.out ok1 l41 hcp
  rw [← hbT]
  clear hv hbT FR1 k1 o1
  go_upto_if 8 with (first
    | (go_at_call 61; refine (once_acc _ P1.out.v.cur (Only.refl _ _) (by omega) (by omega)).mono ?_; rintro e w2 ⟨f2, rfl, k2, o2⟩; have P2 : Hid (P8 B a0 len cap b w w2 bT g c vs fs at' fresh) := P1.out.draw o2 k2))
  have hl1 := P2.out.l1
  have hl4 := P2.out.l4
  have hli : (1 : Int) ≤ (fs.length : Int) := by omega
  have hli4 : (fs.length : Int) ≤ 4 := by omega
  have hfl := P2.out.fr.fo.len
  have p0 := P2.out.v.t0
  clear P1 k2 o2
  go_cut [] from 9 (fun wd => ∃ ad c' fs' a' f', U8 B a0 len cap b w wd bT ad c' fs' a' f')
  case first =>
    cases f2
    · go_wp2
      go_meet
      exact ⟨_, _, _, _, _, P2.out.u⟩
    · go_wp2
      refine wp_region_held_drew (S := fun w' => w'.cell? ⟨bT, 0, none⟩ = some (.slice (some ⟨g, 0, none⟩) fs.length c)) (by kernel_rfl) (P2.out.v.t0) (fun hS => ?_)
      refine wpAnyH_take (i := 0) (v := ?_) rfl (by kernel_rfl) (by kernel_rfl) (by kernel_rfl) (fun _ _ _ h => h) (Or.inl ⟨by rfl, ?_⟩) (by assumption) ?_
      rotate_left 1
      · (intro w' hSw; (try dsimp only at hSw); go_simp; try with_reducible rfl)
      try simp only [Act.put, List.setIfInBounds_toArray, List.set_cons_zero, List.set_cons_succ, List.getElem_toArray, List.getElem_cons_succ, List.getElem_cons_zero]
      refine wpAnyH_take (i := 1) (v := ?_) rfl (by kernel_rfl) (by kernel_rfl) (by kernel_rfl) (fun _ _ _ h => h) (Or.inl ⟨by rfl, ?_⟩) (by assumption) ?_
      rotate_left 1
      · (intro w' hSw; (try dsimp only at hSw); go_simp; try with_reducible rfl)
      try simp only [Act.put, List.setIfInBounds_toArray, List.set_cons_zero, List.set_cons_succ, List.getElem_toArray, List.getElem_cons_succ, List.getElem_cons_zero]
      refine wpAnyH_take (i := 2) (v := ?_) rfl (by kernel_rfl) (by kernel_rfl) (by kernel_rfl) (fun _ _ _ h => h) (Or.inl ⟨by rfl, ?_⟩) (by assumption) ?_
      rotate_left 1
      · (intro w' hSw; (try dsimp only at hSw); go_simp; try with_reducible rfl)
      try simp only [Act.put, List.setIfInBounds_toArray, List.set_cons_zero, List.set_cons_succ, List.getElem_toArray, List.getElem_cons_succ, List.getElem_cons_zero]
      refine wpAnyH_take (i := 3) (v := ?_) rfl (by kernel_rfl) (by kernel_rfl) (by kernel_rfl) (fun _ _ _ h => h) (Or.inl ⟨by rfl, ?_⟩) (by assumption) ?_
      rotate_left 1
      · (intro w' hSw; (try dsimp only at hSw); go_simp; try with_reducible rfl)
      try simp only [Act.put, List.setIfInBounds_toArray, List.set_cons_zero, List.set_cons_succ, List.getElem_toArray, List.getElem_cons_succ, List.getElem_cons_zero]
      refine wpAnyH_take (i := 4) (v := ?_) rfl (by kernel_rfl) (by kernel_rfl) (by kernel_rfl) (fun _ _ _ h => h) (Or.inl ⟨by rfl, ?_⟩) (by assumption) ?_
      rotate_left 1
      · (intro w' hSw; (try dsimp only at hSw); go_simp; try with_reducible rfl)
      try simp only [Act.put, List.setIfInBounds_toArray, List.set_cons_zero, List.set_cons_succ, List.getElem_toArray, List.getElem_cons_succ, List.getElem_cons_zero]
      refine wpAnyH_take (i := 5) (v := ?_) rfl (by kernel_rfl) (by kernel_rfl) (by kernel_rfl) (fun _ _ _ h => h) (Or.inl ⟨by rfl, ?_⟩) (by assumption) ?_
      rotate_left 1
      · (intro w' hSw; (try dsimp only at hSw); go_simp; try with_reducible rfl)
      try simp only [Act.put, List.setIfInBounds_toArray, List.set_cons_zero, List.set_cons_succ, List.getElem_toArray, List.getElem_cons_succ, List.getElem_cons_zero]
      refine wpAnyH_ready (rs := [6]) (by kernel_rfl) (by simp) (AllReadyH.cons rfl (fun K hK => ?_) AllReadyH.nil)
      go_simp
      (refine (below_acc _ (P2.out.next (Below.refl _ _).drew).v.cur (Only.refl _ _) (by omega) (by omega)).mono ?_; rintro e w3 ⟨x3, rfl, hx3, k3, o3⟩; have P3 : Hid (P8 B a0 len cap b w w3 bT g c vs fs at' fresh) := (P2.out.next (Below.refl _ _).drew).draw o3 k3; obtain ⟨m, rfl⟩ := Int.eq_ofNat_of_zero_le hx3.1; have hm : m < fs.length := (by omega); have hm' : (m : Int) < (fs.length : Int) := (by omega); have hS3 := P3.out.v.t0)
      refine hK.out _ _ (by assumption) (fun _ => ?_)
      try simp only [Act.put, List.setIfInBounds_toArray, List.set_cons_zero, List.set_cons_succ, List.getElem_toArray, List.getElem_cons_succ, List.getElem_cons_zero]
      refine wpAnyH_take (i := 7) (v := ?_) rfl (by kernel_rfl) (by kernel_rfl) (by kernel_rfl) (fun _ _ _ h => h) (Or.inl ⟨by rfl, ?_⟩) (by assumption) ?_
      rotate_left 1
      · (intro w' hSw; (try dsimp only at hSw); go_simp; try with_reducible rfl)
      try simp only [Act.put, List.setIfInBounds_toArray, List.set_cons_zero, List.set_cons_succ, List.getElem_toArray, List.getElem_cons_succ, List.getElem_cons_zero]
      refine wpAnyH_take (i := 8) (v := ?_) rfl (by kernel_rfl) (by kernel_rfl) (by kernel_rfl) (fun _ _ _ h => h) (Or.inl ⟨by rfl, ?_⟩) (by assumption) ?_
      rotate_left 1
      · (intro w' hSw; (try dsimp only at hSw); go_simp; try with_reducible rfl)
      try simp only [Act.put, List.setIfInBounds_toArray, List.set_cons_zero, List.set_cons_succ, List.getElem_toArray, List.getElem_cons_succ, List.getElem_cons_zero]
      refine wpAnyH_done (by kernel_rfl) ?_ _
      have hmv : m < vs.length := by omega
      go_upto_block 0 with (first
        | (go_at_call 62; refine (below_acc 5 P3.out.v.cur (Only.refl _ _) (by omega) (by omega)).mono ?_; rintro e w4 ⟨x4, rfl, hx4, k4, o4⟩; have P4 : Hid (P8 B a0 len cap b w w4 bT g c vs fs at' fresh) := P3.out.draw o4 k4))
      clear P2 P3 k3 o3 k4 o4 p0 hx3
      have fg := P4.out.fr.fo.got m hm hmv
      have fd0 := fg.1
      have fd1 := fg.2.1
      have fd2 := fg.2.2
      clear fg
      have ff0 := (P4.out.fr.fo.any (m * 3) (by omega)).2
      have ff1 := (P4.out.fr.fo.any (m * 3 + 1) (by omega)).2
      have ff2 := (P4.out.fr.fo.any (m * 3 + 2) (by omega)).2
      have ft0 := P4.out.v.t0
      have ft1 := P4.out.v.t1
      have ftf := P4.out.v.tf
      have fz1 := P4.out.v.z1
      have HMV : Hid (m < vs.length) := hmv
      rcases (show x4 = 0 ∨ x4 = 1 ∨ x4 = 2 ∨ x4 = 3 ∨ x4 = 4 from by omega) with rfl | rfl | rfl | rfl | rfl
      · clear fd0 fd1 fd2 ff0 ff1 ff2 ft0 ft1 ftf
        go_wp2_with (first
          | (go_at_call 62; refine (below_acc 4 (P4.out.v.cur.alloc _) (Only.refl _ _) (by omega) (by omega)).mono ?_; rintro e w9 ⟨x9, rfl, hx9, k9, o9⟩; obtain ⟨Y, rfl⟩ := Int.eq_ofNat_of_zero_le hx9.1; obtain ⟨yy, hy⟩ := tabQ8_in Y (by omega); have hcell := (table_cell P4.out.v.cur.hi o9 Y).trans hy; clear hy; have P9 : Hid (P8 B a0 len cap b w w9 bT g c vs fs at' fresh) := (P4.out.next (new_below _ _)).draw o9 k9; have fg := P9.out.fr.fo.got m hm hmv; have fd0 := fg.1; have fd1 := fg.2.1; have fd2 := fg.2.2; clear fg; have ff0 := (P9.out.fr.fo.any (m * 3) (by omega)).2; have ff1 := (P9.out.fr.fo.any (m * 3 + 1) (by omega)).2; have ff2 := (P9.out.fr.fo.any (m * 3 + 2) (by omega)).2; have ft0 := P9.out.v.t0; have ft1 := P9.out.v.t1; have ftf := P9.out.v.tf; have fz1 := P9.out.v.z1; have hY : (Y : Int) < 4 := (by omega)))
        go_meet
        obtain ⟨fs', hl', UU⟩ := P9.out.num0 hm yy
        exact ⟨_, _, _, _, _, UU⟩
      · obtain ⟨qq, hqq⟩ : ∃ q, fs[m].1 = q := ⟨_, rfl⟩
        have HQ : Hid (fs[m].1 = qq) := hqq
        rw [hqq] at fd0
        clear hqq
        go_wp2
        refine region_late (S := fun w' => w'.cell? ⟨g, m * 3, none⟩ = some (.int .i64 qq)) 18 (by kernel_rfl) ((by have h := (P4.out.fr.fo.got m hm hmv).1; rw [HQ.out] at h; exact h)) (fun hS => ?_)
        refine late_take (i := 0) (v := ?_) rfl (by kernel_rfl) (by kernel_rfl) (by kernel_rfl) (by kernel_rfl) (fun _ _ _ h => h) (Or.inl ⟨by rfl, ?_⟩) (by assumption) ?_
        rotate_left 1
        · (intro w' hSw; (try dsimp only at hSw); go_simp; try with_reducible rfl)
        try simp only [Act.put, List.setIfInBounds_toArray, List.set_cons_zero, List.set_cons_succ, List.getElem_toArray, List.getElem_cons_succ, List.getElem_cons_zero]
        refine late_take (i := 1) (v := ?_) rfl (by kernel_rfl) (by kernel_rfl) (by kernel_rfl) (by kernel_rfl) (fun _ _ _ h => h) (Or.inl ⟨by rfl, ?_⟩) (by assumption) ?_
        rotate_left 1
        · (intro w' hSw; (try dsimp only at hSw); go_simp; try with_reducible rfl)
        try simp only [Act.put, List.setIfInBounds_toArray, List.set_cons_zero, List.set_cons_succ, List.getElem_toArray, List.getElem_cons_succ, List.getElem_cons_zero]
        refine late_take (i := 2) (v := ?_) rfl (by kernel_rfl) (by kernel_rfl) (by kernel_rfl) (by kernel_rfl) (fun _ _ _ h => h) (Or.inl ⟨by rfl, ?_⟩) (by assumption) ?_
        rotate_left 1
        · (intro w' hSw; (try dsimp only at hSw); go_simp; try with_reducible rfl)
        try simp only [Act.put, List.setIfInBounds_toArray, List.set_cons_zero, List.set_cons_succ, List.getElem_toArray, List.getElem_cons_succ, List.getElem_cons_zero]
        refine late_take (i := 3) (v := ?_) rfl (by kernel_rfl) (by kernel_rfl) (by kernel_rfl) (by kernel_rfl) (fun _ _ _ h => h) (Or.inl ⟨by rfl, ?_⟩) (by assumption) ?_
        rotate_left 1
        · (intro w' hSw; (try dsimp only at hSw); go_simp; try with_reducible rfl)
        try simp only [Act.put, List.setIfInBounds_toArray, List.set_cons_zero, List.set_cons_succ, List.getElem_toArray, List.getElem_cons_succ, List.getElem_cons_zero]
        refine late_take (i := 4) (v := ?_) rfl (by kernel_rfl) (by kernel_rfl) (by kernel_rfl) (by kernel_rfl) (fun _ _ _ h => h) (Or.inl ⟨by rfl, ?_⟩) (by assumption) ?_
        rotate_left 1
        · (intro w' hSw; (try dsimp only at hSw); go_simp; try with_reducible rfl)
        try simp only [Act.put, List.setIfInBounds_toArray, List.set_cons_zero, List.set_cons_succ, List.getElem_toArray, List.getElem_cons_succ, List.getElem_cons_zero]
        refine late_take (i := 5) (v := ?_) rfl (by kernel_rfl) (by kernel_rfl) (by kernel_rfl) (by kernel_rfl) (fun _ _ _ h => h) (Or.inl ⟨by rfl, ?_⟩) (by assumption) ?_
        rotate_left 1
        · (intro w' hSw; (try dsimp only at hSw); go_simp; try with_reducible rfl)
        try simp only [Act.put, List.setIfInBounds_toArray, List.set_cons_zero, List.set_cons_succ, List.getElem_toArray, List.getElem_cons_succ, List.getElem_cons_zero]
        refine late_take (i := 6) (v := ?_) rfl (by kernel_rfl) (by kernel_rfl) (by kernel_rfl) (by kernel_rfl) (fun _ _ _ h => h) (Or.inl ⟨by rfl, ?_⟩) (by assumption) ?_
        rotate_left 1
        · (intro w' hSw; (try dsimp only at hSw); go_simp; try with_reducible rfl)
        try simp only [Act.put, List.setIfInBounds_toArray, List.set_cons_zero, List.set_cons_succ, List.getElem_toArray, List.getElem_cons_succ, List.getElem_cons_zero]
        refine late_take (i := 7) (v := ?_) rfl (by kernel_rfl) (by kernel_rfl) (by kernel_rfl) (by kernel_rfl) (fun _ _ _ h => h) (Or.inl ⟨by rfl, ?_⟩) (by assumption) ?_
        rotate_left 1
        · (intro w' hSw; (try dsimp only at hSw); go_simp; try with_reducible rfl)
        try simp only [Act.put, List.setIfInBounds_toArray, List.set_cons_zero, List.set_cons_succ, List.getElem_toArray, List.getElem_cons_succ, List.getElem_cons_zero]
        refine late_take (i := 8) (v := ?_) rfl (by kernel_rfl) (by kernel_rfl) (by kernel_rfl) (by kernel_rfl) (fun _ _ _ h => h) (Or.inl ⟨by rfl, ?_⟩) (by assumption) ?_
        rotate_left 1
        · (intro w' hSw; (try dsimp only at hSw); go_simp; try with_reducible rfl)
        try simp only [Act.put, List.setIfInBounds_toArray, List.set_cons_zero, List.set_cons_succ, List.getElem_toArray, List.getElem_cons_succ, List.getElem_cons_zero]
        refine late_take (i := 9) (v := ?_) rfl (by kernel_rfl) (by kernel_rfl) (by kernel_rfl) (by kernel_rfl) (fun _ _ _ h => h) (Or.inl ⟨by rfl, ?_⟩) (by assumption) ?_
        rotate_left 1
        · (intro w' hSw; (try dsimp only at hSw); go_simp; try with_reducible rfl)
        try simp only [Act.put, List.setIfInBounds_toArray, List.set_cons_zero, List.set_cons_succ, List.getElem_toArray, List.getElem_cons_succ, List.getElem_cons_zero]
        refine late_take (i := 10) (v := ?_) rfl (by kernel_rfl) (by kernel_rfl) (by kernel_rfl) (by kernel_rfl) (fun _ _ _ h => h) (Or.inl ⟨by rfl, ?_⟩) (by assumption) ?_
        rotate_left 1
        · (intro w' hSw; (try dsimp only at hSw); go_simp; try with_reducible rfl)
        try simp only [Act.put, List.setIfInBounds_toArray, List.set_cons_zero, List.set_cons_succ, List.getElem_toArray, List.getElem_cons_succ, List.getElem_cons_zero]
        refine late_take (i := 12) (v := ?_) rfl (by kernel_rfl) (by kernel_rfl) (by kernel_rfl) (by kernel_rfl) (fun _ _ _ h => h) (Or.inl ⟨by rfl, ?_⟩) (by assumption) ?_
        rotate_left 1
        · (intro w' hSw; (try dsimp only at hSw); go_simp; try with_reducible rfl)
        try simp only [Act.put, List.setIfInBounds_toArray, List.set_cons_zero, List.set_cons_succ, List.getElem_toArray, List.getElem_cons_succ, List.getElem_cons_zero]
        refine late_two (i := 11) (j := 13) (by kernel_rfl) rfl rfl (fun K hK => ?_) (fun K hK => ?_)
        · go_simp
          have DA : Hid (P8 B a0 len cap b w (w4.drew.alloc (.cells #[.int .i64 (-1), .int .i64 1, .int .i64 1499, .int .i64 1500, .int .i64 (IntKind.i64.wrap (qq + 1500)), .int .i64 (IntKind.i64.wrap (qq + 1501))] 2)) bT g c vs fs at' fresh) := P4.out.next ((Below.refl _ _).drew.alloc (Nat.le_refl _) _)
          refine hK.out _ _ ((by have h := (DA.out.fr.fo.got m hm hmv).1; rw [HQ.out] at h; exact h)) (fun hS => ?_)
          try simp only [Act.put, List.setIfInBounds_toArray, List.set_cons_zero, List.set_cons_succ, List.getElem_toArray, List.getElem_cons_succ, List.getElem_cons_zero]
          refine late_one (i := 13) (by kernel_rfl) rfl (fun K hK => ?_)
          go_simp
          (refine (below_acc 6 DA.out.v.cur (Only.refl _ _) (by omega) (by omega)).mono ?_; rintro e vT ⟨x4, rfl, hx4, kT, oT⟩; have DZ : Hid (P8 B a0 len cap b w vT bT g c vs fs at' fresh) := DA.out.draw oT kT; obtain ⟨X, rfl⟩ := Int.eq_ofNat_of_zero_le hx4.1; have hX : X < 6 := (by omega); have hXi : (X : Int) < 6 := (by omega); obtain ⟨yy, hy⟩ := tabD8_in qq X hX; have hcell : vT.cell? ⟨w4.heap.size, X, none⟩ = some (.int .i64 yy) := (table_cell (w := w4.drew) (P4.out.next (Below.refl _ _).drew).v.cur.hi oT X).trans hy; have hS := (by have h := (DZ.out.fr.fo.got m hm hmv).1; rw [HQ.out] at h; exact h); have fg := DZ.out.fr.fo.got m hm hmv; have fd0 := fg.1; have fd1 := fg.2.1; have fd2 := fg.2.2; clear fg; have ff0 := (DZ.out.fr.fo.any (m * 3) (by omega)).2; have ff1 := (DZ.out.fr.fo.any (m * 3 + 1) (by omega)).2; have ff2 := (DZ.out.fr.fo.any (m * 3 + 2) (by omega)).2; have ft0 := DZ.out.v.t0; have ft1 := DZ.out.v.t1; have ftf := DZ.out.v.tf; have fz1 := DZ.out.v.z1; simp only [])
          refine hK.out _ _ (by assumption) (fun _ => ?_)
          try simp only [Act.put, List.setIfInBounds_toArray, List.set_cons_zero, List.set_cons_succ, List.getElem_toArray, List.getElem_cons_succ, List.getElem_cons_zero]
          refine late_take (i := 14) (v := ?_) rfl (by kernel_rfl) (by kernel_rfl) (by kernel_rfl) (by kernel_rfl) (fun _ _ _ h => h) (Or.inl ⟨by rfl, ?_⟩) (by assumption) ?_
          rotate_left 1
          · (intro w' hSw; (try dsimp only at hSw); go_simp; try with_reducible rfl)
          try simp only [Act.put, List.setIfInBounds_toArray, List.set_cons_zero, List.set_cons_succ, List.getElem_toArray, List.getElem_cons_succ, List.getElem_cons_zero]
          refine late_one (i := 15) (by kernel_rfl) rfl (fun K hK => ?_)
          go_simp
          refine hK.out _ _ (by assumption) (fun _ => ?_)
          try simp only [Act.put, List.setIfInBounds_toArray, List.set_cons_zero, List.set_cons_succ, List.getElem_toArray, List.getElem_cons_succ, List.getElem_cons_zero]
          refine late_one (i := 16) (by kernel_rfl) rfl (fun K hK => ?_)
          go_simp
          refine hK.out _ _ (by assumption) (fun _ => ?_)
          try simp only [Act.put, List.setIfInBounds_toArray, List.set_cons_zero, List.set_cons_succ, List.getElem_toArray, List.getElem_cons_succ, List.getElem_cons_zero]
          refine late_take (i := 17) (v := ?_) rfl (by kernel_rfl) (by kernel_rfl) (by kernel_rfl) (by kernel_rfl) (fun _ _ _ h => h) (Or.inl ⟨by rfl, ?_⟩) (by assumption) ?_
          rotate_left 1
          · (intro w' hSw; (try dsimp only at hSw); go_simp; try with_reducible rfl)
          try simp only [Act.put, List.setIfInBounds_toArray, List.set_cons_zero, List.set_cons_succ, List.getElem_toArray, List.getElem_cons_succ, List.getElem_cons_zero]
          refine late_last (by kernel_rfl) rfl (by kernel_rfl) (fun K hK => ?_)
          go_simp
          refine hK.out _ _ ?_
          try simp only [Act.put, List.setIfInBounds_toArray, List.set_cons_zero, List.set_cons_succ, List.getElem_toArray, List.getElem_cons_succ, List.getElem_cons_zero]
          obtain ⟨fs', hl', UU⟩ := DZ.out.num1 hm yy
          have UQ : Hid (U8 B a0 len cap b w (vT.setCell ⟨g, m * 3 + 1, none⟩ (.int .i64 yy)) bT (some ⟨g, 0, none⟩) c fs' at' fresh) := UU
          clear UU
          repeat go_step
          go_meet
          exact ⟨_, _, _, _, _, UQ.out⟩
        · go_simp
          (refine (below_acc 6 (P4.out.next (Below.refl _ _).drew).v.cur (Only.refl _ _) (by omega) (by omega)).mono ?_; rintro e vT ⟨x4, rfl, hx4, kT, oT⟩; have D2 : Hid (P8 B a0 len cap b w vT bT g c vs fs at' fresh) := (P4.out.next (Below.refl _ _).drew).draw oT kT; obtain ⟨X, rfl⟩ := Int.eq_ofNat_of_zero_le hx4.1; have hX : X < 6 := (by omega); have hXi : (X : Int) < 6 := (by omega); obtain ⟨yy, hy⟩ := tabD8_in qq X hX; have hS := (by have h := (D2.out.fr.fo.got m hm hmv).1; rw [HQ.out] at h; exact h); simp only [])
          refine hK.out _ _ (by assumption) (fun _ => ?_)
          try simp only [Act.put, List.setIfInBounds_toArray, List.set_cons_zero, List.set_cons_succ, List.getElem_toArray, List.getElem_cons_succ, List.getElem_cons_zero]
          refine late_one (i := 11) (by kernel_rfl) rfl (fun K hK => ?_)
          go_simp
          have DZ0 : Hid (P8 B a0 len cap b w (vT.alloc (.cells #[.int .i64 (-1), .int .i64 1, .int .i64 1499, .int .i64 1500, .int .i64 (IntKind.i64.wrap (qq + 1500)), .int .i64 (IntKind.i64.wrap (qq + 1501))] 2)) bT g c vs fs at' fresh) := D2.out.next (new_below _ _)
          have hcell0 : (vT.alloc (.cells #[.int .i64 (-1), .int .i64 1, .int .i64 1499, .int .i64 1500, .int .i64 (IntKind.i64.wrap (qq + 1500)), .int .i64 (IntKind.i64.wrap (qq + 1501))] 2)).cell? ⟨vT.heap.size, X, none⟩ = some (.int .i64 yy) := (World.cell?_alloc_at _ _ _ _ rfl).trans hy
          obtain ⟨vU, hvU⟩ : ∃ vU, vU = vT.alloc (.cells #[.int .i64 (-1), .int .i64 1, .int .i64 1499, .int .i64 1500, .int .i64 (IntKind.i64.wrap (qq + 1500)), .int .i64 (IntKind.i64.wrap (qq + 1501))] 2) := ⟨_, rfl⟩
          rw [← hvU] at DZ0 hcell0 ⊢
          have DZ : Hid (P8 B a0 len cap b w vU bT g c vs fs at' fresh) := DZ0
          have hcell := hcell0
          clear hvU DZ0
          have fg := DZ.out.fr.fo.got m hm hmv
          have fd0 := fg.1
          have fd1 := fg.2.1
          have fd2 := fg.2.2
          clear fg
          have ff0 := (DZ.out.fr.fo.any (m * 3) (by omega)).2
          have ff1 := (DZ.out.fr.fo.any (m * 3 + 1) (by omega)).2
          have ff2 := (DZ.out.fr.fo.any (m * 3 + 2) (by omega)).2
          have ft0 := DZ.out.v.t0
          have ft1 := DZ.out.v.t1
          have ftf := DZ.out.v.tf
          have fz1 := DZ.out.v.z1
          refine hK.out _ _ ((by have h := (DZ.out.fr.fo.got m hm hmv).1; rw [HQ.out] at h; exact h)) (fun hS => ?_)
          try simp only [Act.put, List.setIfInBounds_toArray, List.set_cons_zero, List.set_cons_succ, List.getElem_toArray, List.getElem_cons_succ, List.getElem_cons_zero]
          refine late_take (i := 14) (v := ?_) rfl (by kernel_rfl) (by kernel_rfl) (by kernel_rfl) (by kernel_rfl) (fun _ _ _ h => h) (Or.inl ⟨by rfl, ?_⟩) (by assumption) ?_
          rotate_left 1
          · (intro w' hSw; (try dsimp only at hSw); go_simp; try with_reducible rfl)
          try simp only [Act.put, List.setIfInBounds_toArray, List.set_cons_zero, List.set_cons_succ, List.getElem_toArray, List.getElem_cons_succ, List.getElem_cons_zero]
          refine late_one (i := 15) (by kernel_rfl) rfl (fun K hK => ?_)
          go_simp
          refine hK.out _ _ (by assumption) (fun _ => ?_)
          try simp only [Act.put, List.setIfInBounds_toArray, List.set_cons_zero, List.set_cons_succ, List.getElem_toArray, List.getElem_cons_succ, List.getElem_cons_zero]
          refine late_one (i := 16) (by kernel_rfl) rfl (fun K hK => ?_)
          go_simp
          refine hK.out _ _ (by assumption) (fun _ => ?_)
          try simp only [Act.put, List.setIfInBounds_toArray, List.set_cons_zero, List.set_cons_succ, List.getElem_toArray, List.getElem_cons_succ, List.getElem_cons_zero]
          refine late_take (i := 17) (v := ?_) rfl (by kernel_rfl) (by kernel_rfl) (by kernel_rfl) (by kernel_rfl) (fun _ _ _ h => h) (Or.inl ⟨by rfl, ?_⟩) (by assumption) ?_
          rotate_left 1
          · (intro w' hSw; (try dsimp only at hSw); go_simp; try with_reducible rfl)
          try simp only [Act.put, List.setIfInBounds_toArray, List.set_cons_zero, List.set_cons_succ, List.getElem_toArray, List.getElem_cons_succ, List.getElem_cons_zero]
          refine late_last (by kernel_rfl) rfl (by kernel_rfl) (fun K hK => ?_)
          go_simp
          refine hK.out _ _ ?_
          try simp only [Act.put, List.setIfInBounds_toArray, List.set_cons_zero, List.set_cons_succ, List.getElem_toArray, List.getElem_cons_succ, List.getElem_cons_zero]
          obtain ⟨fs', hl', UU⟩ := DZ.out.num1 hm yy
          have UQ : Hid (U8 B a0 len cap b w (vU.setCell ⟨g, m * 3 + 1, none⟩ (.int .i64 yy)) bT (some ⟨g, 0, none⟩) c fs' at' fresh) := UU
          clear UU
          repeat go_step
          go_meet
          exact ⟨_, _, _, _, _, UQ.out⟩
      · obtain ⟨sv, cv, ev⟩ : ∃ sv cv, vs[m] = .slice sv fs[m].2.2.length cv := by
          obtain ⟨x, y, e, _⟩ := (P4.out.fr.fo.own m hm hmv).smp
          exact ⟨x, y, e⟩
        obtain ⟨xs, hxs⟩ : ∃ xs, fs[m].2.2 = xs := ⟨_, rfl⟩
        rw [hxs] at ev
        have HXS : Hid (fs[m].2.2 = xs) := hxs
        have HVM : Hid (vs[m] = .slice sv xs.length cv) := ev
        have hxl : xs.length ≤ 100 := by rw [← hxs]; exact P4.out.le _ (List.getElem_mem hm)
        have HSEP : Hid (∀ y, (Value.slice sv xs.length cv).ownBlock = some y → y ≠ g ∧ y < bT) := fun y e' => by
          have h := P4.out.fr.sep m hmv y ((congrArg Value.ownBlock ev).trans e')
          exact ⟨h.1, h.2.1⟩
        have fd2 := fd2.trans (congrArg some ev)
        clear hxs ev
        go_wp2
        refine region_late (S := fun w' => w'.cell? ⟨g, m * 3 + 2, none⟩ = some (.slice sv xs.length cv)) 14 (by kernel_rfl) (((P4.out.fr.fo.got m hm hmv).2.2.trans (congrArg some HVM.out))) (fun hS => ?_)
        refine late_take (i := 0) (v := ?_) rfl (by kernel_rfl) (by kernel_rfl) (by kernel_rfl) (by kernel_rfl) (fun _ _ _ h => h) (Or.inl ⟨by rfl, ?_⟩) (by assumption) ?_
        rotate_left 1
        · (intro w' hSw; (try dsimp only at hSw); go_simp; try with_reducible rfl)
        try simp only [Act.put, List.setIfInBounds_toArray, List.set_cons_zero, List.set_cons_succ, List.getElem_toArray, List.getElem_cons_succ, List.getElem_cons_zero]
        refine late_take (i := 1) (v := ?_) rfl (by kernel_rfl) (by kernel_rfl) (by kernel_rfl) (by kernel_rfl) (fun _ _ _ h => h) (Or.inl ⟨by rfl, ?_⟩) (by assumption) ?_
        rotate_left 1
        · (intro w' hSw; (try dsimp only at hSw); go_simp; try with_reducible rfl)
        try simp only [Act.put, List.setIfInBounds_toArray, List.set_cons_zero, List.set_cons_succ, List.getElem_toArray, List.getElem_cons_succ, List.getElem_cons_zero]
        refine late_take (i := 2) (v := ?_) rfl (by kernel_rfl) (by kernel_rfl) (by kernel_rfl) (by kernel_rfl) (fun _ _ _ h => h) (Or.inl ⟨by rfl, ?_⟩) (by assumption) ?_
        rotate_left 1
        · (intro w' hSw; (try dsimp only at hSw); go_simp; try with_reducible rfl)
        try simp only [Act.put, List.setIfInBounds_toArray, List.set_cons_zero, List.set_cons_succ, List.getElem_toArray, List.getElem_cons_succ, List.getElem_cons_zero]
        refine late_take (i := 3) (v := ?_) rfl (by kernel_rfl) (by kernel_rfl) (by kernel_rfl) (by kernel_rfl) (fun _ _ _ h => h) (Or.inl ⟨by rfl, ?_⟩) (by assumption) ?_
        rotate_left 1
        · (intro w' hSw; (try dsimp only at hSw); go_simp; try with_reducible rfl)
        try simp only [Act.put, List.setIfInBounds_toArray, List.set_cons_zero, List.set_cons_succ, List.getElem_toArray, List.getElem_cons_succ, List.getElem_cons_zero]
        refine late_take (i := 4) (v := ?_) rfl (by kernel_rfl) (by kernel_rfl) (by kernel_rfl) (by kernel_rfl) (fun _ _ _ h => h) (Or.inl ⟨by rfl, ?_⟩) (by assumption) ?_
        rotate_left 1
        · (intro w' hSw; (try dsimp only at hSw); go_simp; try with_reducible rfl)
        try simp only [Act.put, List.setIfInBounds_toArray, List.set_cons_zero, List.set_cons_succ, List.getElem_toArray, List.getElem_cons_succ, List.getElem_cons_zero]
        refine late_take (i := 6) (v := ?_) rfl (by kernel_rfl) (by kernel_rfl) (by kernel_rfl) (by kernel_rfl) (fun _ _ _ h => h) (Or.inl ⟨by rfl, ?_⟩) (by assumption) ?_
        rotate_left 1
        · (intro w' hSw; (try dsimp only at hSw); go_simp; try with_reducible rfl)
        try simp only [Act.put, List.setIfInBounds_toArray, List.set_cons_zero, List.set_cons_succ, List.getElem_toArray, List.getElem_cons_succ, List.getElem_cons_zero]
        refine late_two (i := 5) (j := 7) (by kernel_rfl) rfl rfl (fun K hK => ?_) (fun K hK => ?_)
        · go_simp
          have DA : Hid (P8 B a0 len cap b w (w4.drew.alloc (.cells #[.int .i64 0, .int .i64 1501, .int .i64 7] 2)) bT g c vs fs at' fresh) := P4.out.next ((Below.refl _ _).drew.alloc (Nat.le_refl _) _)
          refine hK.out _ _ (((DA.out.fr.fo.got m hm hmv).2.2.trans (congrArg some HVM.out))) (fun hS => ?_)
          try simp only [Act.put, List.setIfInBounds_toArray, List.set_cons_zero, List.set_cons_succ, List.getElem_toArray, List.getElem_cons_succ, List.getElem_cons_zero]
          refine late_one (i := 7) (by kernel_rfl) rfl (fun K hK => ?_)
          go_simp
          (refine (below_acc 3 DA.out.v.cur (Only.refl _ _) (by omega) (by omega)).mono ?_; rintro e vT ⟨x4, rfl, hx4, kT, oT⟩; have DZ : Hid (P8 B a0 len cap b w vT bT g c vs fs at' fresh) := DA.out.draw oT kT; obtain ⟨X, rfl⟩ := Int.eq_ofNat_of_zero_le hx4.1; have hX : X < 3 := (by omega); have hXi : (X : Int) < 3 := (by omega); obtain ⟨yy, hy⟩ := tabS8_in X hX; have hcell : vT.cell? ⟨w4.heap.size, X, none⟩ = some (.int .i64 yy) := (table_cell (w := w4.drew) (P4.out.next (Below.refl _ _).drew).v.cur.hi oT X).trans hy; have hS := ((DZ.out.fr.fo.got m hm hmv).2.2.trans (congrArg some HVM.out)); have fg := DZ.out.fr.fo.got m hm hmv; have fd0 := fg.1; have fd1 := fg.2.1; have fd2 := fg.2.2; clear fg; have ff0 := (DZ.out.fr.fo.any (m * 3) (by omega)).2; have ff1 := (DZ.out.fr.fo.any (m * 3 + 1) (by omega)).2; have ff2 := (DZ.out.fr.fo.any (m * 3 + 2) (by omega)).2; have ft0 := DZ.out.v.t0; have ft1 := DZ.out.v.t1; have ftf := DZ.out.v.tf; have fz1 := DZ.out.v.z1; simp only [])
          refine hK.out _ _ (by assumption) (fun _ => ?_)
          try simp only [Act.put, List.setIfInBounds_toArray, List.set_cons_zero, List.set_cons_succ, List.getElem_toArray, List.getElem_cons_succ, List.getElem_cons_zero]
          refine late_take (i := 8) (v := ?_) rfl (by kernel_rfl) (by kernel_rfl) (by kernel_rfl) (by kernel_rfl) (fun _ _ _ h => h) (Or.inl ⟨by rfl, ?_⟩) (by assumption) ?_
          rotate_left 1
          · (intro w' hSw; (try dsimp only at hSw); go_simp; try with_reducible rfl)
          try simp only [Act.put, List.setIfInBounds_toArray, List.set_cons_zero, List.set_cons_succ, List.getElem_toArray, List.getElem_cons_succ, List.getElem_cons_zero]
          refine late_one (i := 9) (by kernel_rfl) rfl (fun K hK => ?_)
          go_simp
          refine hK.out _ _ (by assumption) (fun _ => ?_)
          try simp only [Act.put, List.setIfInBounds_toArray, List.set_cons_zero, List.set_cons_succ, List.getElem_toArray, List.getElem_cons_succ, List.getElem_cons_zero]
          refine late_one (i := 10) (by kernel_rfl) rfl (fun K hK => ?_)
          go_simp
          have fd2' : vT.cell? ⟨g, m * 3 + 2, none⟩ = some (.slice sv xs.length cv) := fd2.trans (congrArg some HVM.out)
          have HRW : Hid (vT.ownsRow (w.heap.size + 1) 2 1 (.slice sv xs.length cv) xs.length (flatI xs)) := (by have h := DZ.out.fr.row m hm hmv; have e1 := HVM.out; have e2 := HXS.out; exact row_eq h e1 e2)
          have hgz : g < vT.heap.size := (by have := DZ.out.fr.fo.g1; omega)
          have hwz : w.heap.size + 1 ≤ vT.heap.size := (by have := DZ.out.v.z0; omega)
          refine hK.out _ _ (((newB vT _).cell (p := ⟨g, m * 3 + 2, none⟩) hgz).trans fd2') (fun hS => ?_)
          try simp only [Act.put, List.setIfInBounds_toArray, List.set_cons_zero, List.set_cons_succ, List.getElem_toArray, List.getElem_cons_succ, List.getElem_cons_zero]
          refine late_one (i := 11) (by kernel_rfl) rfl (fun K hK => ?_)
          rw [if_pos (by rfl)]
          refine wp_append_two _ _ _ 51 rfl (w.heap.size + 1) 2 i0 _ 1 8 Try.underlying51 hi0 hz0 hz1' hz2 rfl (by decide) _ _ _ rfl (row_next HRW.out (newB _ _)) ⟨vT.heap.size, 0, none⟩ 1 1 [.int .i64 yy] rfl rfl (one_news (by go_simp)) (fun u hu => by rw [List.mem_singleton] at hu; subst hu; rfl) (by unfold maxLen; omega) (by omega) (by simp; omega) (by decide) ?_
          intro v' w6 own6 gr6 two6
          obtain ⟨fa, fc, rfl⟩ := own_slice own6
          obtain ⟨fs', hl', UU⟩ := DZ.out.app hm hmv (newB vT (.cells #[.int .i64 yy] 2)) (row_len own6 HXS.out) (by have e1 := congrArg Value.ownBlock HVM.out; exact e1 ▸ gr6) (by have e1 := congrArg Value.ownBlock HVM.out; exact e1 ▸ two6)
          have UQ : Hid (U8 B a0 len cap b w (w6.setCell ⟨g, m * 3 + 2, none⟩ (.slice fa (xs.length + 1) fc)) bT (some ⟨g, 0, none⟩) c fs' at' fresh) := UU
          clear UU
          have hgn : (Value.slice sv xs.length cv).ownBlock ≠ some g := fun e' => (HSEP.out g e').1 rfl
          have hbl : w6.heap[g]? = vT.heap[g]? := (gr6.block g (by simp; omega) (fun e' => hgn e'.symm)).trans ((newB vT _).block g (by omega))
          have u2 : w6.cell? ⟨g, m * 3 + 2, none⟩ = some (.slice sv xs.length cv) := (World.cell?_of_block (a := ⟨g, m * 3 + 2, none⟩) hbl).trans fd2'
          have uf : w6.frozen? ⟨g, m * 3 + 2, none⟩ = false := (World.frozen?_of_block (a := ⟨g, m * 3 + 2, none⟩) hbl).trans ff2
          refine hK.out _ _ u2 (fun hS => ?_)
          try simp only [Act.put, List.setIfInBounds_toArray, List.set_cons_zero, List.set_cons_succ, List.getElem_toArray, List.getElem_cons_succ, List.getElem_cons_zero]
          refine late_one (i := 12) (by kernel_rfl) rfl (fun K hK => ?_)
          go_simp
          refine hK.out _ _ (by assumption) (fun _ => ?_)
          try simp only [Act.put, List.setIfInBounds_toArray, List.set_cons_zero, List.set_cons_succ, List.getElem_toArray, List.getElem_cons_succ, List.getElem_cons_zero]
          refine late_take (i := 13) (v := ?_) rfl (by kernel_rfl) (by kernel_rfl) (by kernel_rfl) (by kernel_rfl) (fun _ _ _ h => h) (Or.inl ⟨by rfl, ?_⟩) (by assumption) ?_
          rotate_left 1
          · (intro w' hSw; (try dsimp only at hSw); go_simp; try with_reducible rfl)
          try simp only [Act.put, List.setIfInBounds_toArray, List.set_cons_zero, List.set_cons_succ, List.getElem_toArray, List.getElem_cons_succ, List.getElem_cons_zero]
          refine late_last (by kernel_rfl) rfl (by kernel_rfl) (fun K hK => ?_)
          go_simp
          refine hK.out _ _ ?_
          try simp only [Act.put, List.setIfInBounds_toArray, List.set_cons_zero, List.set_cons_succ, List.getElem_toArray, List.getElem_cons_succ, List.getElem_cons_zero]
          repeat go_step
          go_meet
          exact ⟨_, _, _, _, _, UQ.out⟩
        · go_simp
          (refine (below_acc 3 (P4.out.next (Below.refl _ _).drew).v.cur (Only.refl _ _) (by omega) (by omega)).mono ?_; rintro e vT ⟨x4, rfl, hx4, kT, oT⟩; have D2 : Hid (P8 B a0 len cap b w vT bT g c vs fs at' fresh) := (P4.out.next (Below.refl _ _).drew).draw oT kT; obtain ⟨X, rfl⟩ := Int.eq_ofNat_of_zero_le hx4.1; have hX : X < 3 := (by omega); have hXi : (X : Int) < 3 := (by omega); obtain ⟨yy, hy⟩ := tabS8_in X hX; have hS := ((D2.out.fr.fo.got m hm hmv).2.2.trans (congrArg some HVM.out)); simp only [])
          refine hK.out _ _ (by assumption) (fun _ => ?_)
          try simp only [Act.put, List.setIfInBounds_toArray, List.set_cons_zero, List.set_cons_succ, List.getElem_toArray, List.getElem_cons_succ, List.getElem_cons_zero]
          refine late_one (i := 5) (by kernel_rfl) rfl (fun K hK => ?_)
          go_simp
          have DZ0 : Hid (P8 B a0 len cap b w (vT.alloc (.cells #[.int .i64 0, .int .i64 1501, .int .i64 7] 2)) bT g c vs fs at' fresh) := D2.out.next (new_below _ _)
          have hcell0 : (vT.alloc (.cells #[.int .i64 0, .int .i64 1501, .int .i64 7] 2)).cell? ⟨vT.heap.size, X, none⟩ = some (.int .i64 yy) := (World.cell?_alloc_at _ _ _ _ rfl).trans hy
          obtain ⟨vU, hvU⟩ : ∃ vU, vU = vT.alloc (.cells #[.int .i64 0, .int .i64 1501, .int .i64 7] 2) := ⟨_, rfl⟩
          rw [← hvU] at DZ0 hcell0 ⊢
          have DZ : Hid (P8 B a0 len cap b w vU bT g c vs fs at' fresh) := DZ0
          have hcell := hcell0
          clear hvU DZ0
          have fg := DZ.out.fr.fo.got m hm hmv
          have fd0 := fg.1
          have fd1 := fg.2.1
          have fd2 := fg.2.2
          clear fg
          have ff0 := (DZ.out.fr.fo.any (m * 3) (by omega)).2
          have ff1 := (DZ.out.fr.fo.any (m * 3 + 1) (by omega)).2
          have ff2 := (DZ.out.fr.fo.any (m * 3 + 2) (by omega)).2
          have ft0 := DZ.out.v.t0
          have ft1 := DZ.out.v.t1
          have ftf := DZ.out.v.tf
          have fz1 := DZ.out.v.z1
          refine hK.out _ _ (((DZ.out.fr.fo.got m hm hmv).2.2.trans (congrArg some HVM.out))) (fun hS => ?_)
          try simp only [Act.put, List.setIfInBounds_toArray, List.set_cons_zero, List.set_cons_succ, List.getElem_toArray, List.getElem_cons_succ, List.getElem_cons_zero]
          refine late_take (i := 8) (v := ?_) rfl (by kernel_rfl) (by kernel_rfl) (by kernel_rfl) (by kernel_rfl) (fun _ _ _ h => h) (Or.inl ⟨by rfl, ?_⟩) (by assumption) ?_
          rotate_left 1
          · (intro w' hSw; (try dsimp only at hSw); go_simp; try with_reducible rfl)
          try simp only [Act.put, List.setIfInBounds_toArray, List.set_cons_zero, List.set_cons_succ, List.getElem_toArray, List.getElem_cons_succ, List.getElem_cons_zero]
          refine late_one (i := 9) (by kernel_rfl) rfl (fun K hK => ?_)
          go_simp
          refine hK.out _ _ (by assumption) (fun _ => ?_)
          try simp only [Act.put, List.setIfInBounds_toArray, List.set_cons_zero, List.set_cons_succ, List.getElem_toArray, List.getElem_cons_succ, List.getElem_cons_zero]
          refine late_one (i := 10) (by kernel_rfl) rfl (fun K hK => ?_)
          go_simp
          have fd2' : vU.cell? ⟨g, m * 3 + 2, none⟩ = some (.slice sv xs.length cv) := fd2.trans (congrArg some HVM.out)
          have HRW : Hid (vU.ownsRow (w.heap.size + 1) 2 1 (.slice sv xs.length cv) xs.length (flatI xs)) := (by have h := DZ.out.fr.row m hm hmv; have e1 := HVM.out; have e2 := HXS.out; exact row_eq h e1 e2)
          have hgz : g < vU.heap.size := (by have := DZ.out.fr.fo.g1; omega)
          have hwz : w.heap.size + 1 ≤ vU.heap.size := (by have := DZ.out.v.z0; omega)
          refine hK.out _ _ (((newB vU _).cell (p := ⟨g, m * 3 + 2, none⟩) hgz).trans fd2') (fun hS => ?_)
          try simp only [Act.put, List.setIfInBounds_toArray, List.set_cons_zero, List.set_cons_succ, List.getElem_toArray, List.getElem_cons_succ, List.getElem_cons_zero]
          refine late_one (i := 11) (by kernel_rfl) rfl (fun K hK => ?_)
          rw [if_pos (by rfl)]
          refine wp_append_two _ _ _ 51 rfl (w.heap.size + 1) 2 i0 _ 1 8 Try.underlying51 hi0 hz0 hz1' hz2 rfl (by decide) _ _ _ rfl (row_next HRW.out (newB _ _)) ⟨vU.heap.size, 0, none⟩ 1 1 [.int .i64 yy] rfl rfl (one_news (by go_simp)) (fun u hu => by rw [List.mem_singleton] at hu; subst hu; rfl) (by unfold maxLen; omega) (by omega) (by simp; omega) (by decide) ?_
          intro v' w6 own6 gr6 two6
          obtain ⟨fa, fc, rfl⟩ := own_slice own6
          obtain ⟨fs', hl', UU⟩ := DZ.out.app hm hmv (newB vU (.cells #[.int .i64 yy] 2)) (row_len own6 HXS.out) (by have e1 := congrArg Value.ownBlock HVM.out; exact e1 ▸ gr6) (by have e1 := congrArg Value.ownBlock HVM.out; exact e1 ▸ two6)
          have UQ : Hid (U8 B a0 len cap b w (w6.setCell ⟨g, m * 3 + 2, none⟩ (.slice fa (xs.length + 1) fc)) bT (some ⟨g, 0, none⟩) c fs' at' fresh) := UU
          clear UU
          have hgn : (Value.slice sv xs.length cv).ownBlock ≠ some g := fun e' => (HSEP.out g e').1 rfl
          have hbl : w6.heap[g]? = vU.heap[g]? := (gr6.block g (by simp; omega) (fun e' => hgn e'.symm)).trans ((newB vU _).block g (by omega))
          have u2 : w6.cell? ⟨g, m * 3 + 2, none⟩ = some (.slice sv xs.length cv) := (World.cell?_of_block (a := ⟨g, m * 3 + 2, none⟩) hbl).trans fd2'
          have uf : w6.frozen? ⟨g, m * 3 + 2, none⟩ = false := (World.frozen?_of_block (a := ⟨g, m * 3 + 2, none⟩) hbl).trans ff2
          refine hK.out _ _ u2 (fun hS => ?_)
          try simp only [Act.put, List.setIfInBounds_toArray, List.set_cons_zero, List.set_cons_succ, List.getElem_toArray, List.getElem_cons_succ, List.getElem_cons_zero]
          refine late_one (i := 12) (by kernel_rfl) rfl (fun K hK => ?_)
          go_simp
          refine hK.out _ _ (by assumption) (fun _ => ?_)
          try simp only [Act.put, List.setIfInBounds_toArray, List.set_cons_zero, List.set_cons_succ, List.getElem_toArray, List.getElem_cons_succ, List.getElem_cons_zero]
          refine late_take (i := 13) (v := ?_) rfl (by kernel_rfl) (by kernel_rfl) (by kernel_rfl) (by kernel_rfl) (fun _ _ _ h => h) (Or.inl ⟨by rfl, ?_⟩) (by assumption) ?_
          rotate_left 1
          · (intro w' hSw; (try dsimp only at hSw); go_simp; try with_reducible rfl)
          try simp only [Act.put, List.setIfInBounds_toArray, List.set_cons_zero, List.set_cons_succ, List.getElem_toArray, List.getElem_cons_succ, List.getElem_cons_zero]
          refine late_last (by kernel_rfl) rfl (by kernel_rfl) (fun K hK => ?_)
          go_simp
          refine hK.out _ _ ?_
          try simp only [Act.put, List.setIfInBounds_toArray, List.set_cons_zero, List.set_cons_succ, List.getElem_toArray, List.getElem_cons_succ, List.getElem_cons_zero]
          repeat go_step
          go_meet
          exact ⟨_, _, _, _, _, UQ.out⟩
      · go_wp2
        refine region_late (S := fun w' => w'.cell? ⟨bT, 0, none⟩ = some (.slice (some ⟨g, 0, none⟩) fs.length c)) 9 (by kernel_rfl) (P4.out.v.t0) (fun hS => ?_)
        refine late_take (i := 0) (v := ?_) rfl (by kernel_rfl) (by kernel_rfl) (by kernel_rfl) (by kernel_rfl) (fun _ _ _ h => h) (Or.inl ⟨by rfl, ?_⟩) (by assumption) ?_
        rotate_left 1
        · (intro w' hSw; (try dsimp only at hSw); go_simp; try with_reducible rfl)
        try simp only [Act.put, List.setIfInBounds_toArray, List.set_cons_zero, List.set_cons_succ, List.getElem_toArray, List.getElem_cons_succ, List.getElem_cons_zero]
        refine late_take (i := 1) (v := ?_) rfl (by kernel_rfl) (by kernel_rfl) (by kernel_rfl) (by kernel_rfl) (fun _ _ _ h => h) (Or.inl ⟨by rfl, ?_⟩) (by assumption) ?_
        rotate_left 1
        · (intro w' hSw; (try dsimp only at hSw); go_simp; try with_reducible rfl)
        try simp only [Act.put, List.setIfInBounds_toArray, List.set_cons_zero, List.set_cons_succ, List.getElem_toArray, List.getElem_cons_succ, List.getElem_cons_zero]
        refine late_take (i := 2) (v := ?_) rfl (by kernel_rfl) (by kernel_rfl) (by kernel_rfl) (by kernel_rfl) (fun _ _ _ h => h) (Or.inl ⟨by rfl, ?_⟩) (by assumption) ?_
        rotate_left 1
        · (intro w' hSw; (try dsimp only at hSw); go_simp; try with_reducible rfl)
        try simp only [Act.put, List.setIfInBounds_toArray, List.set_cons_zero, List.set_cons_succ, List.getElem_toArray, List.getElem_cons_succ, List.getElem_cons_zero]
        refine late_take (i := 4) (v := ?_) rfl (by kernel_rfl) (by kernel_rfl) (by kernel_rfl) (by kernel_rfl) (fun _ _ _ h => h) (Or.inl ⟨by rfl, ?_⟩) (by assumption) ?_
        rotate_left 1
        · (intro w' hSw; (try dsimp only at hSw); go_simp; try with_reducible rfl)
        try simp only [Act.put, List.setIfInBounds_toArray, List.set_cons_zero, List.set_cons_succ, List.getElem_toArray, List.getElem_cons_succ, List.getElem_cons_zero]
        refine late_two (i := 3) (j := 5) (by kernel_rfl) rfl rfl (fun K hK => ?_) (fun K hK => ?_)
        · go_simp
          have DA : Hid (P8 B a0 len cap b w (w4.drew.alloc (.cells #[.int .i64 (-1), .int .i64 (fs.length : Int), .int .i64 0] 2)) bT g c vs fs at' fresh) := P4.out.next ((Below.refl _ _).drew.alloc (Nat.le_refl _) _)
          refine hK.out _ _ (DA.out.v.t0) (fun hS => ?_)
          try simp only [Act.put, List.setIfInBounds_toArray, List.set_cons_zero, List.set_cons_succ, List.getElem_toArray, List.getElem_cons_succ, List.getElem_cons_zero]
          refine late_one (i := 5) (by kernel_rfl) rfl (fun K hK => ?_)
          go_simp
          (refine (below_acc 3 DA.out.v.cur (Only.refl _ _) (by omega) (by omega)).mono ?_; rintro e vT ⟨x4, rfl, hx4, kT, oT⟩; have DZ : Hid (P8 B a0 len cap b w vT bT g c vs fs at' fresh) := DA.out.draw oT kT; obtain ⟨X, rfl⟩ := Int.eq_ofNat_of_zero_le hx4.1; have hX : X < 3 := (by omega); have hXi : (X : Int) < 3 := (by omega); obtain ⟨yy, hy⟩ := tabA8_in fs.length X hX; have hcell : vT.cell? ⟨w4.heap.size, X, none⟩ = some (.int .i64 yy) := (table_cell (w := w4.drew) (P4.out.next (Below.refl _ _).drew).v.cur.hi oT X).trans hy; have hS := DZ.out.v.t0; have fg := DZ.out.fr.fo.got m hm hmv; have fd0 := fg.1; have fd1 := fg.2.1; have fd2 := fg.2.2; clear fg; have ff0 := (DZ.out.fr.fo.any (m * 3) (by omega)).2; have ff1 := (DZ.out.fr.fo.any (m * 3 + 1) (by omega)).2; have ff2 := (DZ.out.fr.fo.any (m * 3 + 2) (by omega)).2; have ft0 := DZ.out.v.t0; have ft1 := DZ.out.v.t1; have ftf := DZ.out.v.tf; have fz1 := DZ.out.v.z1; simp only [])
          refine hK.out _ _ (by assumption) (fun _ => ?_)
          try simp only [Act.put, List.setIfInBounds_toArray, List.set_cons_zero, List.set_cons_succ, List.getElem_toArray, List.getElem_cons_succ, List.getElem_cons_zero]
          refine late_take (i := 6) (v := ?_) rfl (by kernel_rfl) (by kernel_rfl) (by kernel_rfl) (by kernel_rfl) (fun _ _ _ h => h) (Or.inl ⟨by rfl, ?_⟩) (by assumption) ?_
          rotate_left 1
          · (intro w' hSw; (try dsimp only at hSw); go_simp; try with_reducible rfl)
          try simp only [Act.put, List.setIfInBounds_toArray, List.set_cons_zero, List.set_cons_succ, List.getElem_toArray, List.getElem_cons_succ, List.getElem_cons_zero]
          refine late_one (i := 7) (by kernel_rfl) rfl (fun K hK => ?_)
          go_simp
          refine hK.out _ _ (by assumption) (fun _ => ?_)
          try simp only [Act.put, List.setIfInBounds_toArray, List.set_cons_zero, List.set_cons_succ, List.getElem_toArray, List.getElem_cons_succ, List.getElem_cons_zero]
          refine late_take (i := 8) (v := ?_) rfl (by kernel_rfl) (by kernel_rfl) (by kernel_rfl) (by kernel_rfl) (fun _ _ _ h => h) (Or.inl ⟨by rfl, ?_⟩) (by assumption) ?_
          rotate_left 1
          · (intro w' hSw; (try dsimp only at hSw); go_simp; try with_reducible rfl)
          try simp only [Act.put, List.setIfInBounds_toArray, List.set_cons_zero, List.set_cons_succ, List.getElem_toArray, List.getElem_cons_succ, List.getElem_cons_zero]
          refine late_last (by kernel_rfl) rfl (by kernel_rfl) (fun K hK => ?_)
          go_simp
          refine hK.out _ _ ?_
          try simp only [Act.put, List.setIfInBounds_toArray, List.set_cons_zero, List.set_cons_succ, List.getElem_toArray, List.getElem_cons_succ, List.getElem_cons_zero]
          have UQ : Hid (U8 B a0 len cap b w (vT.setCell ⟨bT, 1, none⟩ (.int .i64 yy)) bT (some ⟨g, 0, none⟩) c fs yy fresh) := DZ.out.u.at yy
          repeat go_step
          go_meet
          exact ⟨_, _, _, _, _, UQ.out⟩
        · go_simp
          (refine (below_acc 3 (P4.out.next (Below.refl _ _).drew).v.cur (Only.refl _ _) (by omega) (by omega)).mono ?_; rintro e vT ⟨x4, rfl, hx4, kT, oT⟩; have D2 : Hid (P8 B a0 len cap b w vT bT g c vs fs at' fresh) := (P4.out.next (Below.refl _ _).drew).draw oT kT; obtain ⟨X, rfl⟩ := Int.eq_ofNat_of_zero_le hx4.1; have hX : X < 3 := (by omega); have hXi : (X : Int) < 3 := (by omega); obtain ⟨yy, hy⟩ := tabA8_in fs.length X hX; have hS := D2.out.v.t0; simp only [])
          refine hK.out _ _ (by assumption) (fun _ => ?_)
          try simp only [Act.put, List.setIfInBounds_toArray, List.set_cons_zero, List.set_cons_succ, List.getElem_toArray, List.getElem_cons_succ, List.getElem_cons_zero]
          refine late_one (i := 3) (by kernel_rfl) rfl (fun K hK => ?_)
          go_simp
          have DZ0 : Hid (P8 B a0 len cap b w (vT.alloc (.cells #[.int .i64 (-1), .int .i64 (fs.length : Int), .int .i64 0] 2)) bT g c vs fs at' fresh) := D2.out.next (new_below _ _)
          have hcell0 : (vT.alloc (.cells #[.int .i64 (-1), .int .i64 (fs.length : Int), .int .i64 0] 2)).cell? ⟨vT.heap.size, X, none⟩ = some (.int .i64 yy) := (World.cell?_alloc_at _ _ _ _ rfl).trans hy
          obtain ⟨vU, hvU⟩ : ∃ vU, vU = vT.alloc (.cells #[.int .i64 (-1), .int .i64 (fs.length : Int), .int .i64 0] 2) := ⟨_, rfl⟩
          rw [← hvU] at DZ0 hcell0 ⊢
          have DZ : Hid (P8 B a0 len cap b w vU bT g c vs fs at' fresh) := DZ0
          have hcell := hcell0
          clear hvU DZ0
          have fg := DZ.out.fr.fo.got m hm hmv
          have fd0 := fg.1
          have fd1 := fg.2.1
          have fd2 := fg.2.2
          clear fg
          have ff0 := (DZ.out.fr.fo.any (m * 3) (by omega)).2
          have ff1 := (DZ.out.fr.fo.any (m * 3 + 1) (by omega)).2
          have ff2 := (DZ.out.fr.fo.any (m * 3 + 2) (by omega)).2
          have ft0 := DZ.out.v.t0
          have ft1 := DZ.out.v.t1
          have ftf := DZ.out.v.tf
          have fz1 := DZ.out.v.z1
          refine hK.out _ _ (DZ.out.v.t0) (fun hS => ?_)
          try simp only [Act.put, List.setIfInBounds_toArray, List.set_cons_zero, List.set_cons_succ, List.getElem_toArray, List.getElem_cons_succ, List.getElem_cons_zero]
          refine late_take (i := 6) (v := ?_) rfl (by kernel_rfl) (by kernel_rfl) (by kernel_rfl) (by kernel_rfl) (fun _ _ _ h => h) (Or.inl ⟨by rfl, ?_⟩) (by assumption) ?_
          rotate_left 1
          · (intro w' hSw; (try dsimp only at hSw); go_simp; try with_reducible rfl)
          try simp only [Act.put, List.setIfInBounds_toArray, List.set_cons_zero, List.set_cons_succ, List.getElem_toArray, List.getElem_cons_succ, List.getElem_cons_zero]
          refine late_one (i := 7) (by kernel_rfl) rfl (fun K hK => ?_)
          go_simp
          refine hK.out _ _ (by assumption) (fun _ => ?_)
          try simp only [Act.put, List.setIfInBounds_toArray, List.set_cons_zero, List.set_cons_succ, List.getElem_toArray, List.getElem_cons_succ, List.getElem_cons_zero]
          refine late_take (i := 8) (v := ?_) rfl (by kernel_rfl) (by kernel_rfl) (by kernel_rfl) (by kernel_rfl) (fun _ _ _ h => h) (Or.inl ⟨by rfl, ?_⟩) (by assumption) ?_
          rotate_left 1
          · (intro w' hSw; (try dsimp only at hSw); go_simp; try with_reducible rfl)
          try simp only [Act.put, List.setIfInBounds_toArray, List.set_cons_zero, List.set_cons_succ, List.getElem_toArray, List.getElem_cons_succ, List.getElem_cons_zero]
          refine late_last (by kernel_rfl) rfl (by kernel_rfl) (fun K hK => ?_)
          go_simp
          refine hK.out _ _ ?_
          try simp only [Act.put, List.setIfInBounds_toArray, List.set_cons_zero, List.set_cons_succ, List.getElem_toArray, List.getElem_cons_succ, List.getElem_cons_zero]
          have UQ : Hid (U8 B a0 len cap b w (vU.setCell ⟨bT, 1, none⟩ (.int .i64 yy)) bT (some ⟨g, 0, none⟩) c fs yy fresh) := DZ.out.u.at yy
          repeat go_step
          go_meet
          exact ⟨_, _, _, _, _, UQ.out⟩
      · clear fd0 fd1 fd2 ff0 ff1 ff2
        go_wp2
        go_meet
        exact ⟨some ⟨w4.heap.size, 0, none⟩, 0, [], at', fresh, ⟨(P4.out.v.set0 (.slice (some ⟨w4.heap.size, 0, none⟩) 0 0)).next (newB _ _), .inl rfl, by simp, fun x hx => by cases hx⟩⟩
  case rest =>
    obtain ⟨ad, c', fs', a', f', d⟩ := hcut
    have DE : Hid (U8 B a0 len cap b w wc bT ad c' fs' a' f') := d
    clear d
    have q0 := DE.out.v.r0
    have q1 := DE.out.v.r1
    have q2 := DE.out.v.r2
    have qf := DE.out.v.rf
    have e0 := DE.out.v.t0
    have e1 := DE.out.v.t1
    have e2 := DE.out.v.t2
    go_wp2
    refine bodyPost_ret (results_one rfl _ _ _ [.slice ad fs'.length c', .int .i64 a', .bool f'] rfl (put3_res (z0 := .slice none 0 0) (z1 := .int .i64 0) (z2 := .bool false) _ _ _ q0 q1 q2) Try.underlying48 rfl (by kernel_rfl)) rfl ?_
    exact DE.out.out _ _ _
end Go.Proofs.Ytdgefdjgpneanad
