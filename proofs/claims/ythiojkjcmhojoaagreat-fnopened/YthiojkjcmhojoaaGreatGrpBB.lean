import Derived.Test.YthiojkjcmhojoaaGreatGrpBA
import Derived.Test.YthiojkjcmhojoaaGreatGrpAT
import Derived.Test.YthiojkjcmhojoaaGreatGrpAJ
import Derived.Test.YthiojkjcmhojoaaGreatGrpAZ
namespace Go.Proofs.YthiojkjcmhojoaaGreat
set_option maxHeartbeats 8000000
open Go.ChangeShapes Go.WideShapes Go.ChangeAt Go.RowKit
set_option maxRecDepth 100000
set_option linter.unusedVariables false
set_option linter.unusedSimpArgs false
theorem iQ_is {lo x hi:Int} {f:Bool} (h:inQ lo x hi=f) (w:World):Calls Tryz.prog 62 #[.int .i64 x,.int .i64 lo,.int .i64 hi] w fun e w'=>e=.returned (.bool f)∧w'=w:=by subst h;exact iwithin_any lo x hi w
theorem iId_is {x:Int} {f:Bool} (h:inQ 0 x 1000000=f) (w:World):Calls Tryz.prog 103 #[.int .i64 x] w fun e w'=>e=.returned (.bool f)∧w'=w:=by
 go_enter Tryz.func103,Tryz.ntmps103
 go_wp2_with (first
  | (go_at_call 62;refine (iQ_is h _).mono ?_;rintro e w2 ⟨rfl,rfl⟩))
 go_ret
 exact ⟨rfl,rfl⟩
open Classical in
noncomputable def risB (xs:List Int):Bool:=decide (MemTo xs xs.length)
open Classical in
theorem ris_true {xs:List Int} (h:MemTo xs xs.length):risB xs=true:=by
 unfold risB
 exact decide_eq_true h
open Classical in
theorem ris_false {xs:List Int} (h:¬MemTo xs xs.length):risB xs=false:=by
 unfold risB
 exact decide_eq_false h
open Classical in
theorem ris_yes {xs:List Int} (h:risB xs=true):MemTo xs xs.length:=by
 unfold risB at h
 exact of_decide_eq_true h
open Classical in
theorem ris_no {xs:List Int} (h:risB xs=false):¬MemTo xs xs.length:=by
 unfold risB at h
 exact of_decide_eq_false h
theorem rising_any {w:World} {a:Option Addr} (cap:Nat) {xs:List Int} (hl:xs.length≤50) (smp:ISmp w.heap.size w a xs):Calls Tryz.prog 63 #[.slice a xs.length cap] w fun e w'=>e=.returned (.bool (risB xs))∧w'=w:=by
 obtain ⟨f,hf⟩:∃f,risB xs=f:=⟨_,rfl⟩
 rw [hf]
 go_enter Tryz.func63,Tryz.ntmps63
 go_wp2
 go_loop [7] (fun i=>∃(k:Nat),i=.int .i64 k∧k≤xs.length∧MemTo xs k) (fun i=>xs.length-(intOf i).toNat)
 case atStart=>exact ⟨0,rfl,by omega,MemTo.zero xs⟩
 case round =>
  obtain ⟨k,rfl,hk,hM⟩:=hrel
  by_cases hlt:k<xs.length
  ·have hlt':(k:Int)<(xs.length:Int):=by omega
   have hk0:(0:Int)≤(k:Int):=by omega
   cases h3:inQ 0 xs[k] 1000000
   ·obtain rfl:f=false:=by
     rw [←hf]
     refine ris_false (fun h=>?_)
     have:=(h k hlt hlt).1
     unfold inQ at h3
     simp [this.1,this.2] at h3
    obtain ⟨b,off,rfl,hb,c0⟩:=smp k hlt
    obtain ⟨y,hy⟩:∃y,xs[k]=y:=⟨_,rfl⟩
    rw [hy] at c0 h3
    clear hy hf
    go_wp2_with (first
     | (go_at_call 103;refine (iId_is h3 _).mono ?_;rintro e w2 ⟨rfl,rfl⟩))
    go_ret
    exact ⟨rfl,rfl⟩
   have h3n:0≤xs[k]∧xs[k]≤1000000:=by
    unfold inQ at h3
    simp only [Bool.and_eq_true,decide_eq_true_eq] at h3
    exact h3
   by_cases hz:k=0
   ·subst hz
    have hN:MemTo xs 1:=hM.next hlt h3n (fun j hj e=>by omega)
    obtain ⟨b,off,rfl,hb,c0⟩:=smp 0 hlt
    have hlt0:(0:Int)<(xs.length:Int):=by omega
    obtain ⟨y,hy⟩:∃y,xs[0]=y:=⟨_,rfl⟩
    rw [hy] at c0 h3
    rw [Nat.add_zero] at c0
    clear hy h3n
    go_wp2_with (first
     | (go_at_call 103;refine (iId_is h3 _).mono ?_;rintro e w2 ⟨rfl,rfl⟩))
    go_round
    case rel=>exact ⟨1,by go_num,by omega,hN⟩
    case measure=>simp [intOf]<;>omega
   obtain ⟨l,rfl⟩:∃l,k=l+1:=⟨k-1,by omega⟩
   have hl1:IntKind.i64.wrap ((l:Int)+1-1)=(l:Int):=by rw [IntKind.wrap_i64];omega
   have hl2:IntKind.i64.wrap (((l+1:Nat):Int)-1)=(l:Int):=by rw [IntKind.wrap_i64];omega
   have hl3:(l:Int)<(xs.length:Int):=by omega
   have hl4:(0:Int)<((l+1:Nat):Int):=by omega
   have hl5:(0:Int)<(l:Int)+1:=by omega
   have hl6:IntKind.i64.wrap (l:Int)=(l:Int):=by rw [IntKind.wrap_i64];omega
   obtain ⟨b,off,rfl,hb,c0⟩:=smp (l+1) hlt
   obtain ⟨b',off',e',hb',c1⟩:=smp l (by omega)
   injection e' with e'
   injection e' with e1 e2
   subst e1 e2
   obtain ⟨y,hy⟩:∃y,xs[l+1]=y:=⟨_,rfl⟩
   obtain ⟨z,hzz⟩:∃z,xs[l]=z:=⟨_,rfl⟩
   by_cases h4:y≤z
   ·obtain rfl:f=false:=by
     rw [←hf]
     refine ris_false (fun h=>?_)
     have:=(h (l+1) hlt hlt).2 l (by omega) rfl
     rw [hy,hzz] at this
     omega
    rw [hy] at c0 h3
    rw [hzz] at c1
    clear hy hzz hf h3n
    go_wp2_with (first
     | (go_at_call 103;refine (iId_is h3 _).mono ?_;rintro e w2 ⟨rfl,rfl⟩))
    go_ret
    exact ⟨rfl,rfl⟩
   ·have hN:MemTo xs (l+1+1):=hM.next hlt h3n (fun j hj e=>by obtain rfl:j=l:=(by omega);rw [hy,hzz];omega)
    rw [hy] at c0 h3
    rw [hzz] at c1
    clear hy hzz h3n
    go_wp2_with (first
     | (go_at_call 103;refine (iId_is h3 _).mono ?_;rintro e w2 ⟨rfl,rfl⟩))
    go_round
    case rel=>exact ⟨l+1+1,by go_num,by omega,hN⟩
    case measure=>simp [intOf]<;>omega
  ·have e:k=xs.length:=by omega
   subst e
   obtain rfl:f=true:=by
    rw [←hf]
    exact ris_true hM
   go_wp2
   go_ret
   exact ⟨rfl,rfl⟩
theorem rising_is {w:World} {a:Option Addr} (cap:Nat) {xs:List Int} {f:Bool} (hf:risB xs=f) (hl:xs.length≤50) (smp:ISmp w.heap.size w a xs):Calls Tryz.prog 63 #[.slice a xs.length cap] w fun e w'=>e=.returned (.bool f)∧w'=w:=by subst hf;exact rising_any cap hl smp
theorem implPlaceOk_any {wd fl:Int} {w:World} {a:Option Addr} (cap:Nat) {xs:List Int} (smp:ISmp w.heap.size w a xs):Calls Tryz.prog 112 #[.agg #[.int .i64 wd,.int .i64 fl,.slice a xs.length cap]] w fun e w'=>e=.returned (.bool (plB wd fl xs))∧Below w.heap.size w w':=by
 cases h0:openB wd
 ·rw [pl_false (fun h=>by have q:=h.1;rw [h0] at q;cases q)]
  go_enter Tryz.func112,Tryz.ntmps112
  go_wp2_with (first
   | (go_at_call 150;refine (iOpen_is h0 _).mono ?_;rintro e w2 ⟨rfl,rfl⟩))
  go_ret
  exact ⟨rfl,by go_grown⟩
 cases h1:w10B fl
 ·rw [pl_false (fun h=>by have q:=h.2.1;rw [h1] at q;cases q)]
  go_enter Tryz.func112,Tryz.ntmps112
  go_wp2_with (first
   | (go_at_call 150;refine (iOpen_is h0 _).mono ?_;rintro e w2 ⟨rfl,rfl⟩)
   | (go_at_call 118;refine (iWin_is h1 _).mono ?_;rintro e w2 ⟨rfl,rfl⟩))
  go_ret
  exact ⟨rfl,by go_grown⟩
 by_cases h2:(50:Int)<(xs.length:Int)
 ·rw [pl_false (fun h=>by have:=h.2.2.1;omega)]
  go_enter Tryz.func112,Tryz.ntmps112
  go_wp2_with (first
   | (go_at_call 150;refine (iOpen_is h0 _).mono ?_;rintro e w2 ⟨rfl,rfl⟩)
   | (go_at_call 118;refine (iWin_is h1 _).mono ?_;rintro e w2 ⟨rfl,rfl⟩))
  go_ret
  exact ⟨rfl,by go_grown⟩
 have h2':decide ((50:Int)<(xs.length:Int))=false:=decide_eq_false h2
 have h2n:xs.length≤50:=by omega
 cases h3:risB xs
 ·rw [pl_false (fun h=>ris_no h3 h.2.2.2)]
  go_enter Tryz.func112,Tryz.ntmps112
  go_wp2_with (first
   | (go_at_call 150;refine (iOpen_is h0 _).mono ?_;rintro e w2 ⟨rfl,rfl⟩)
   | (go_at_call 118;refine (iWin_is h1 _).mono ?_;rintro e w2 ⟨rfl,rfl⟩)
   | (go_at_call 63;refine (rising_is cap h3 h2n (smp.here (by go_grown))).mono ?_;rintro e w2 ⟨rfl,rfl⟩))
  go_ret
  exact ⟨rfl,by go_grown⟩
 ·rw [pl_true ⟨h0,h1,h2n,ris_yes h3⟩]
  go_enter Tryz.func112,Tryz.ntmps112
  go_wp2_with (first
   | (go_at_call 150;refine (iOpen_is h0 _).mono ?_;rintro e w2 ⟨rfl,rfl⟩)
   | (go_at_call 118;refine (iWin_is h1 _).mono ?_;rintro e w2 ⟨rfl,rfl⟩)
   | (go_at_call 63;refine (rising_is cap h3 h2n (smp.here (by go_grown))).mono ?_;rintro e w2 ⟨rfl,rfl⟩))
  go_ret
  exact ⟨rfl,by go_grown⟩
theorem implPlaceOk_is {wd fl:Int} {w:World} {a:Option Addr} (cap:Nat) {xs:List Int} {f:Bool} (hf:plB wd fl xs=f) (smp:ISmp w.heap.size w a xs):Calls Tryz.prog 112 #[.agg #[.int .i64 wd,.int .i64 fl,.slice a xs.length cap]] w fun e w'=>e=.returned (.bool f)∧Below w.heap.size w w':=by subst hf;exact implPlaceOk_any cap smp
theorem ifill_row {w:World} {g:Nat} {t:TypeId} {xs:List Int} (h:w.heap[g]?=some (.cells (flatI xs).toArray t (0,0))):IFill w g xs.length xs xs.length :=
 ⟨fun j hj=>⟨⟨xs[j],by rw [cell_of_row w g j _ t (0,0) h,List.getElem?_toArray];unfold flatI;rw [List.getElem?_map,List.getElem?_eq_getElem hj];rfl⟩,frozen_of_row w g j _ t h⟩,fun i hi hk=>by rw [cell_of_row w g i _ t (0,0) h,List.getElem?_toArray];unfold flatI;rw [List.getElem?_map,List.getElem?_eq_getElem hi];rfl⟩
theorem splice_all {α:Type} (L cs:List α) (h:L.length=cs.length):splice L 0 cs=cs:=by
 unfold splice
 rw [List.take_zero,List.nil_append,Nat.zero_add,←h,List.drop_length,List.append_nil]
theorem ownM_any {wd fl:Int} {w:World} {a:Option Addr} (cap:Nat) {xs:List Int} (hl:xs.length≤1048576) (smp:ISmp w.heap.size w a xs):Calls Tryz.prog 100 #[.agg #[.int .i64 wd,.int .i64 fl,.slice a xs.length cap]] w (AnsP w xs wd fl):=by
 obtain ⟨i0,hi,hz0,hz1,hz2⟩:=info_parts info_int
 go_enter Tryz.func100,Tryz.ntmps100
 go_upto_region 1 with (fail)
 obtain ⟨x,hx⟩:∃x,x=(w.alloc (.cells #[.int .i64 wd,.int .i64 fl,.slice a xs.length cap] 50)).alloc (.cells #[.int .i64 0,.int .i64 0,.slice none 0 0] 50):=⟨_,rfl⟩
 rw [←hx]
 have hbw:Below w.heap.size w x:=by rw [hx];go_grown
 have zl:w.heap.size+1+1≤x.heap.size:=by rw [hx];simp
 have p0:x.cell? ⟨w.heap.size,0,none⟩=some (.int .i64 wd):=by rw [hx];go_simp
 have p1:x.cell? ⟨w.heap.size,1,none⟩=some (.int .i64 fl):=by rw [hx];go_simp
 have p2:x.cell? ⟨w.heap.size,2,none⟩=some (.slice a xs.length cap):=by rw [hx];go_simp
 have v0:x.cell? ⟨w.heap.size+1,0,none⟩=some (.int .i64 0):=by rw [hx];go_simp
 have v1:x.cell? ⟨w.heap.size+1,1,none⟩=some (.int .i64 0):=by rw [hx];go_simp
 have v2:x.cell? ⟨w.heap.size+1,2,none⟩=some (.slice none 0 0):=by rw [hx];go_simp
 have pz:∀o:Nat,x.frozen? ⟨w.heap.size,o,none⟩=false:=fun o=>by rw [hx];go_simp
 have vz:∀o:Nat,x.frozen? ⟨w.heap.size+1,o,none⟩=false:=fun o=>by rw [hx];go_simp
 clear hx
 go_upto_region 2 with (first
  | (at_make;refine wpList_make_full _ rfl _ _ 45 rfl x.heap.size 2 i0 _ 1 Tryz.underlying45 hi hz0 hz1 _ _ _ _ xs.length rfl rfl rfl rfl (by rw [hz2];omega) (by unfold maxLen;omega) (Nat.le_refl _) ?_;intro w3 own3 gr3;have hb3:Below x.heap.size x w3:=(Below.refl _ _).grown gr3 (Nat.le_refl _) (fun k hk=>by cases hk);have z3:=zl;have hbw:Below w.heap.size w w3:=below_two hbw hb3;have p0:=(hb3.cell (p:=⟨w.heap.size,0,none⟩) (by show w.heap.size<_;omega)).trans p0;have p1:=(hb3.cell (p:=⟨w.heap.size,1,none⟩) (by show w.heap.size<_;omega)).trans p1;have p2:=(hb3.cell (p:=⟨w.heap.size,2,none⟩) (by show w.heap.size<_;omega)).trans p2;have v0:=(hb3.cell (p:=⟨w.heap.size+1,0,none⟩) (by show w.heap.size+1<_;omega)).trans v0;have v1:=(hb3.cell (p:=⟨w.heap.size+1,1,none⟩) (by show w.heap.size+1<_;omega)).trans v1;have v2:=(hb3.cell (p:=⟨w.heap.size+1,2,none⟩) (by show w.heap.size+1<_;omega)).trans v2;have vz:∀o:Nat,w3.frozen? ⟨w.heap.size+1,o,none⟩=false:=fun o=>(hb3.frozen (p:=⟨w.heap.size+1,o,none⟩) (by show w.heap.size+1<_;omega)).trans (vz o);have zl:w.heap.size+1+1≤w3.heap.size:=Nat.le_trans zl hb3.size;have pz:∀o:Nat,w3.frozen? ⟨w.heap.size,o,none⟩=false:=(fun o=>(hb3.frozen (p:=⟨w.heap.size,o,none⟩) (by show w.heap.size<_;omega)).trans (pz o))))
 obtain ⟨L,hL,hrow⟩:∃L:List Value,L.length=xs.length∧w3.heap[x.heap.size]?=some (.cells L.toArray 2 (0,0)):=by
  rcases own3.2 with ⟨e,_⟩|⟨g,c,cur,e,_,hg,hnc,hcm,hcs,_⟩
  ·cases e
  ·cases e
   exact ⟨cur.toList,by rw [Array.length_toList,hcs];omega,by simpa using hg⟩
 have hsm:Hid (∀j v,(flatI xs)[j]?=some v→∃ad,a=some ad∧w3.cell? (ad.add j)=some v):=fun j v hv=>by
  have hj:j<xs.length:=by have:=(List.getElem?_eq_some_iff.1 hv).1;rwa [flatI_length] at this
  obtain ⟨b,off,e,_⟩:=smp j hj
  subst e
  exact ⟨_,rfl,ismp_news (smp.mono hbw) j v hv⟩
 have HL:Hid (L.length=xs.length):=hL
 have HSM:Hid (∀u ∈ flatI xs,u.oneCell'=true):=flatI_one xs
 obtain ⟨X1,hX1⟩:∃X1,X1=flatI xs:=⟨_,rfl⟩
 have HX:Hid (X1.length=xs.length):=by show _=_;rw [hX1,flatI_length]
 have HXE:Hid (X1=flatI xs):=hX1
 rw [←hX1] at hsm HSM
 clear hX1 hL
 have hpos:Hid (0<X1.length→(some (⟨x.heap.size,0,none⟩:Addr))=some ⟨x.heap.size,0,none⟩∧∃ad,a=some ad∧∀j v,X1[j]?=some v→w3.cell? (ad.add j)=some v):=fun h0=>⟨rfl,by
  obtain ⟨ad,e,_⟩:=hsm.out 0 X1[0] (List.getElem?_eq_getElem h0)
  exact ⟨ad,e,fun j v hv=>by obtain ⟨ad',e',h⟩:=hsm.out j v hv;rw [e] at e';cases e';exact h⟩⟩
 go_upto_region 3 with (first
  | (refine wpList_copy_splice rfl (.tmp 8) (.tmp 10) 45 45 rfl 2 Tryz.underlying45 (by kernel_rfl) _ _ _ _ _ _ rfl rfl x.heap.size 0 L 2 hrow X1 (HX.out.trans (Nat.min_self _).symm) hpos.out (by have:=HX.out;have:=HL.out;omega) HSM.out x.heap.size w3 (Below.refl _ _) (Nat.le_refl _) ?_;intro w4 HG4 hb4))
 have gr:x.heap.size<w3.heap.size:=(own3.lt _ rfl).2
 have oC:Below w.heap.size w w4:=hbw.trans (hb4.mono (by omega))
 have f4:IFill w4 x.heap.size xs.length xs xs.length:=by
  have h:=HG4.out
  rw [splice_all _ _ (HL.out.trans HX.out.symm),HXE.out] at h
  exact ifill_row h
 have z4:=hb4.size
 have p0:=(hb4.cell (p:=⟨w.heap.size,0,none⟩) (by show w.heap.size<_;omega)).trans p0
 have p1:=(hb4.cell (p:=⟨w.heap.size,1,none⟩) (by show w.heap.size<_;omega)).trans p1
 have p2:=(hb4.cell (p:=⟨w.heap.size,2,none⟩) (by show w.heap.size<_;omega)).trans p2
 have v0:=(hb4.cell (p:=⟨w.heap.size+1,0,none⟩) (by show w.heap.size+1<_;omega)).trans v0
 have v1:=(hb4.cell (p:=⟨w.heap.size+1,1,none⟩) (by show w.heap.size+1<_;omega)).trans v1
 have v2:=(hb4.cell (p:=⟨w.heap.size+1,2,none⟩) (by show w.heap.size+1<_;omega)).trans v2
 have pz:∀o:Nat,w4.frozen? ⟨w.heap.size,o,none⟩=false:=fun o=>(hb4.frozen (p:=⟨w.heap.size,o,none⟩) (by show w.heap.size<_;omega)).trans (pz o)
 have vz:∀o:Nat,w4.frozen? ⟨w.heap.size+1,o,none⟩=false:=fun o=>(hb4.frozen (p:=⟨w.heap.size+1,o,none⟩) (by show w.heap.size+1<_;omega)).trans (vz o)
 have gx:x.heap.size<w4.heap.size:=by omega
 clear HG4 hrow hpos hsm own3 gr3 HL HX HXE HSM
 go_upto_region 4 with (fail)
 obtain ⟨x4,hx4⟩:∃y,y=w4.setCell ⟨w.heap.size,2,none⟩ (.slice (some ⟨x.heap.size,0,none⟩) xs.length xs.length):=⟨_,rfl⟩
 rw [←hx4]
 have oX:Only w.heap.size w4 x4:=by rw [hx4];exact (Only.refl _ w4).setCell (p:=⟨w.heap.size,2,none⟩) rfl _
 have p0:x4.cell? ⟨w.heap.size,0,none⟩=some (.int .i64 wd):=by rw [hx4];exact (set_other4 (by decide)).trans p0
 have p1:x4.cell? ⟨w.heap.size,1,none⟩=some (.int .i64 fl):=by rw [hx4];exact (set_other4 (by decide)).trans p1
 have p2:x4.cell? ⟨w.heap.size,2,none⟩=some (.slice (some ⟨x.heap.size,0,none⟩) xs.length xs.length):=by rw [hx4];exact set_same4 _ p2
 have v0:x4.cell? ⟨w.heap.size+1,0,none⟩=some (.int .i64 0):=(oX.cell (by show w.heap.size+1<_;omega) (by show w.heap.size+1≠_;omega)).trans v0
 have v1:x4.cell? ⟨w.heap.size+1,1,none⟩=some (.int .i64 0):=(oX.cell (by show w.heap.size+1<_;omega) (by show w.heap.size+1≠_;omega)).trans v1
 have v2:x4.cell? ⟨w.heap.size+1,2,none⟩=some (.slice none 0 0):=(oX.cell (by show w.heap.size+1<_;omega) (by show w.heap.size+1≠_;omega)).trans v2
 have vz:∀o:Nat,x4.frozen? ⟨w.heap.size+1,o,none⟩=false:=fun o=>(oX.frozen (by show w.heap.size+1<_;omega) (by show w.heap.size+1≠_;omega)).trans (vz o)
 have f4:IFill x4 x.heap.size xs.length xs xs.length:=f4.only oX gx (by omega)
 have hbw:Below w.heap.size w x4:=oC.trans (oX.below (Nat.le_refl _) (by omega))
 have zX:=oX.size
 clear hx4 oX
 go_wp2
 obtain ⟨y,ey,cs,fzy,sz,hbel,hon⟩:=over3 (.int .i64 wd) (.int .i64 fl) (.slice (some ⟨x.heap.size,0,none⟩) xs.length xs.length) (w:=x4) (g:=w.heap.size+1) v0 v1 v2
 rw [←ey]
 refine bodyPost_ret (results_one rfl _ _ _ [.int .i64 wd,.int .i64 fl,.slice (some ⟨x.heap.size,0,none⟩) xs.length xs.length] rfl cs Tryz.underlying50 rfl (by kernel_rfl)) rfl ?_
 exact ⟨_,_,_,rfl,.inl ⟨x.heap.size,xs.length,rfl,by omega,by omega,f4.only hon (by omega) (by omega),Nat.le_refl _⟩,hbw.trans (hbel _ (by omega))⟩
theorem less_any_ImplPlc2 {wd fl n f1:Int} (w:World) (a:Option Addr) (k c:Nat) (h1:max 0 (fl-n)=f1) (hn:(0≤fl∧fl≤1000000000)∧(0≤n∧n≤1000000000)):Calls Tryz.prog 120 #[.agg #[.int .i64 wd,.int .i64 fl,.slice a k c],.int .i64 n] w fun e w'=>e=.returned (.agg #[.int .i64 wd,.int .i64 f1,.slice a k c])∧Below w.heap.size w w':=by
 have r1:IntKind.i64.wrap (fl-n)=fl-n:=by rw [IntKind.wrap_i64];omega
 rcases Int.lt_or_le (fl-n) 0 with hc|hc
 ·obtain rfl:f1=0:=by omega
  go_enter Tryz.func120,Tryz.ntmps120
  go_wp2
  refine bodyPost_ret (results_one rfl _ _ _ [.int .i64 wd,.int .i64 0,.slice a k c] rfl (cells_three (by go_simp) (by go_simp) (by go_simp)) Tryz.underlying50 rfl (by kernel_rfl)) rfl ?_
  exact ⟨rfl,by go_grown⟩
 ·obtain rfl:f1=(fl-n):=by omega
  go_enter Tryz.func120,Tryz.ntmps120
  go_wp2
  refine bodyPost_ret (results_one rfl _ _ _ [.int .i64 wd,.int .i64 (fl-n),.slice a k c] rfl (cells_three (by go_simp) (by go_simp) (by go_simp)) Tryz.underlying50 rfl (by kernel_rfl)) rfl ?_
  exact ⟨rfl,by go_grown⟩
theorem w10_of {n:Int} (h:0≤n∧n≤1000000000):w10B n=true:=by
 unfold w10B
 simp [h.1,h.2]
theorem open_of {n:Int} (h:3000≤n∧n≤1000000000):openB n=true:=by
 unfold openB
 simp [h.1,h.2]
def FreeOk (wd fl n:Int) (xs:List Int):Prop:=plB wd fl xs=true∧inQ 1 n 1000000000=true
theorem free_ok {wd fl n:Int} {lost:Bool} {xs:List Int} (h:FreeOk wd fl n xs):plB (freeW wd n lost) (max 0 (fl-n)) xs=true∧¬(freeW wd n lost=0)∧¬(fl<max 0 (fl-n))∧(lost=false→¬(freeW wd n lost<wd))∧(lost=true→¬(wd<freeW wd n lost)):=by
 obtain ⟨hp,hn⟩:=h
 obtain ⟨a,b,c,d⟩:=pl_yes hp
 obtain ⟨h1,h2,h3⟩:=pl_num hp
 obtain ⟨n1,n2⟩:=inQ_num hn
 have dv:0≤n*1500 / wd:=Int.ediv_nonneg (by omega) (by omega)
 have hw:3000≤freeW wd n lost∧freeW wd n lost≤1000000000∧(lost=false→wd≤freeW wd n lost)∧(lost=true→freeW wd n lost≤wd):=by
  unfold freeW
  cases lost
  ·rw [if_neg (by decide)]
   exact ⟨by omega,by omega,fun _=>by omega,fun e=>(by cases e)⟩
  ·rw [if_pos rfl]
   exact ⟨by omega,by omega,fun e=>(by cases e),fun _=>by omega⟩
 exact ⟨pl_true ⟨open_of ⟨hw.1,hw.2.1⟩,w10_of (by omega),c,d⟩,by omega,by omega,fun e=>by have:=hw.2.2.1 e;omega,fun e=>by have:=hw.2.2.2 e;omega⟩
theorem claim_free {wd fl n:Int} {xs:List Int} (h:roomB_SpecPlc2 wd fl n xs=true):FreeOk wd (fl+n) n xs∧max 0 (fl+n-n)=fl∧fl+n≤wd∧wd≤freeW wd n false:=by
 obtain ⟨hp,hn,hle⟩:=room_num h
 obtain ⟨a,b,c,d⟩:=pl_yes hp
 obtain ⟨h1,h2,h3⟩:=pl_num hp
 obtain ⟨n1,n2⟩:=s10_num hn
 have hf:FreeOk wd (fl+n) n xs:=⟨pl_true ⟨a,w10_of (by omega),c,d⟩,by unfold inQ;simp;omega⟩
 have k:=(free_ok (lost:=false) hf).2.2.2.1 rfl
 exact ⟨hf,by omega,hle,by omega⟩
def SeatPost (w:World) (ps:List (Int × Bool)) (e:Ending) (w':World):Prop:=e=.returned (.agg (flatB ps).toArray)∧Below w.heap.size w w'
theorem seats_zero:∃(Z:Array Value) (zs:List (Int × Bool)),Hid (Z=(flatB zs).toArray∧zs=List.replicate 50 (0,false)∧zs.length=50)∧∀w,(zeroValue 124).run Tryz.prog w=.ok (.agg Z) w:=⟨_,_,⟨rfl,rfl,List.length_replicate⟩,fun w=>zeroV_seats w⟩
theorem seatsOf_any {w:World} {a:Option Addr} (cap:Nat) {xs:List Int} (hl:xs.length≤50) (smp:ISmp w.heap.size w a xs):Calls Tryz.prog 113 #[.slice a xs.length cap] w (SeatPost w (seatsR xs)):=by
 obtain ⟨Z,zs,HZ,hz⟩:=seats_zero
 go_enter Tryz.func113,Tryz.ntmps113
 go_upto_region 2 with (fail)
 obtain ⟨x,hx⟩:∃x,x=(w.alloc (.cells Z 124)).alloc (.cells Z 124):=⟨_,rfl⟩
 rw [←hx]
 have hbx:Below w.heap.size w x:=by rw [hx];go_grown
 obtain ⟨hZ,hzs,hz5⟩:=HZ.out
 have rz:RowB x w.heap.size zs:=by rw [hx,hZ];exact (rowB_new w hz5).next (by go_grown)
 have r0:RowB x (w.heap.size+1) (seatsR (xs.take 0)):=by
  rw [hx,hZ]
  have h:=rowB_new (w.alloc (.cells (flatB zs).toArray 124)) hz5
  rw [show (w.alloc (.cells (flatB zs).toArray 124)).heap.size=w.heap.size+1 by simp] at h
  rw [List.take_zero,seatsR_nil,←hzs]
  exact h
 have HZ5:Hid (zs.length=50):=hz5
 clear hx hZ hzs hz5 hz HZ
 go_wp2
 go_loopw [8] (fun i wr=>∃(k:Nat),i=.int .i64 k∧k≤xs.length∧RowB wr w.heap.size zs∧RowB wr (w.heap.size+1) (seatsR (xs.take k))∧Below w.heap.size w wr) (fun i _=>xs.length-(intOf i).toNat)
 case atStart=>exact ⟨0,rfl,by omega,rz,r0,hbx⟩
 case round =>
  clear rz r0 hbx
  obtain ⟨k,rfl,hk,rz,r1,hwr⟩:=hrel
  have HRZ:Hid (RowB wr w.heap.size zs):=rz
  have HR:Hid (RowB wr (w.heap.size+1) (seatsR (xs.take k))):=r1
  clear rz r1
  by_cases hlt:k<xs.length
  ·have hlt':(k:Int)<(xs.length:Int):=by omega
   have hk5:(k:Int)<50:=by omega
   have hk0:(0:Int)≤(k:Int):=by omega
   obtain ⟨b,off,rfl,hb,c0⟩:=smp.at hwr k hlt
   obtain ⟨y,hy⟩:∃y,xs[k]=y:=⟨_,rfl⟩
   rw [hy] at c0
   have htl:(xs.take k).length=k:=by rw [List.length_take];omega
   have HN:Hid ((seatsR (xs.take k)).set k (y,true)=seatsR (xs.take (k+1))):=by
    show _=_
    have h:=seatsR_push (ys:=xs.take k) (y:=y) (by omega)
    rw [htl] at h
    rw [h,List.take_succ_eq_append_getElem hlt,hy]
   clear hy
   have hsl:(seatsR (xs.take k)).length=50:=HR.out.1
   obtain ⟨u0,e0⟩:∃u,wr.cell? ⟨w.heap.size+1,k*2,none⟩=some u:=⟨_,HR.out.c0 k (by omega)⟩
   obtain ⟨u1,e1⟩:∃u,wr.cell? ⟨w.heap.size+1,k*2+1,none⟩=some u:=⟨_,HR.out.c1 k (by omega)⟩
   have f0:=HR.out.fz
   clear hsl htl
   go_wp2
   obtain ⟨x9,hx9⟩:∃x,x=(wr.setCell ⟨w.heap.size+1,k*2,none⟩ (.int .i64 y)).setCell ⟨w.heap.size+1,k*2+1,none⟩ (.bool true):=⟨_,rfl⟩
   have R9:RowB x9 (w.heap.size+1) (seatsR (xs.take (k+1))):=by rw [hx9,←HN.out];exact HR.out.put k y true
   have o9:Only (w.heap.size+1) wr x9:=by rw [hx9];exact only_two _ _
   rw [←hx9]
   clear hx9
   go_roundw
   case rel=>exact ⟨k+1,by go_num,by omega,HRZ.out.only o9 (by omega),R9,hwr.trans (o9.below (by omega) (hwr.size))⟩
   case measure=>simp [intOf]<;>omega
  ·have e:k=xs.length:=by omega
   subst e
   rw [List.take_length] at HR
   go_wp2_with (first
    | (refine wpList_load_row rfl 124 (.tmp 3) rfl (w.heap.size+1) rfl _ _ _ _ HR.out.2 und_seats rfl (by rw [size_row HR.out.1];exact info_seats) ?_)
    | (refine wpList_store_row rfl 124 (.tmp 2) (.tmp 18) rfl w.heap.size _ rfl rfl _ _ HRZ.out.2 (by rw [size_row HR.out.1];exact info_seats) (by rw [size_row HRZ.out.1,size_row HR.out.1]) (all_one _) ?_))
   obtain ⟨R8,o8⟩:=rowB_set HRZ.out HR.out.1
   refine bodyPost_ret (results_cell_row rfl _ _ w.heap.size _ _ _ _ rfl R8.2 und_seats rfl (by rw [size_row R8.1];exact info_seats)) rfl ?_
   exact ⟨rfl,hwr.trans (o8.below (Nat.le_refl _) hwr.size)⟩
theorem wpList_index_row {P:Program} {ops:Array Oper} {rest:List Oper} {o:Oper} {a:Act} {w:World} {Q:Exit→Act→World→Prop} (hgd:o.guard=none) (t:TypeId) (x i:Operand) (ho:o.op=.index t x i) (v:Value) (hrun:(Instr.index t (a.eval x) (a.eval i)).run P w=.ok v w) (h:wpList P ops Q rest (a.put o.dst v) w):wpList P ops Q (o :: rest) a w:=by
 refine wpList_plain hgd fun K hK=>?_
 unfold Oper.wp
 simp [execOp,ho,hrun,Result.andThen]
 exact hK _ _ h
theorem index_seat {ps:List (Int × Bool)} (hp:ps.length=50) (k:Nat) (hk:k<ps.length) (w:World):(Instr.index 124 (.agg (flatB ps).toArray) (.int .i64 (k:Int))).run Tryz.prog w=.ok (.agg #[.int .i64 ps[k].1,.bool ps[k].2]) w:=by
 have hs:(sizeOf 122).run Tryz.prog w=.ok 2 w:=by
  obtain ⟨i0,hi,_,hz1,_⟩:=info_parts info_seat
  simp [sizeOf,typeInfo,hi,hz1]
 have h0:(0:Int)≤(k:Int):=by omega
 have h1:(k:Int)<50:=by omega
 have h2:k<50:=by omega
 have hpt:=part_seat w ps k hk
 simp [Instr.index,asIntOf,run_underlying und_seats,h0,h1,h2,hs,hpt]
theorem memb_yes {ps:List (Int × Bool)} {k:Nat} (h:k<ps.length) (hk:ps[k].2=true):memb (ps.take (k+1))=memb (ps.take k) ++ [ps[k].1]:=by
 unfold memb
 rw [List.take_succ_eq_append_getElem h,List.filter_append,List.map_append]
 simp [hk]
theorem memb_no {ps:List (Int × Bool)} {k:Nat} (h:k<ps.length) (hk:ps[k].2=false):memb (ps.take (k+1))=memb (ps.take k):=by
 unfold memb
 rw [List.take_succ_eq_append_getElem h,List.filter_append,List.map_append]
 simp [hk]
theorem memb_le (ps:List (Int × Bool)) (k:Nat):(memb (ps.take k)).length≤ps.length:=by
 unfold memb
 rw [List.length_map]
 exact Nat.le_trans (List.length_filter_le _ _) (by rw [List.length_take];exact Nat.min_le_right _ _)
def NumsPost (w:World) (ys:List Int) (e:Ending) (w':World):Prop:=∃a n c,e=.returned (.slice a n c)∧IV w' w.heap.size (.slice a n c) ys∧Below w.heap.size w w'
theorem members_any {w:World} {ps:List (Int × Bool)} (hp:ps.length=50):Calls Tryz.prog 115 #[.agg (flatB ps).toArray] w (NumsPost w (memb ps)):=by
 obtain ⟨i0,hi,hz0,hz1,hz2⟩:=info_parts info_int
 obtain ⟨R,hR⟩:∃R:Array Value,R=(flatB ps).toArray:=⟨_,rfl⟩
 rw [←hR]
 have HR:Hid (R=(flatB ps).toArray):=hR
 have HP:Hid (ps.length=50):=hp
 clear hR hp
 go_enter Tryz.func115,Tryz.ntmps115
 go_upto_region 2 with (fail)
 obtain ⟨x,hx⟩:∃x,x=w.alloc (.cells R 124):=⟨_,rfl⟩
 rw [←hx]
 have hbx:Below w.heap.size w x:=by rw [hx];go_grown
 have hxs:w.heap.size+1≤x.heap.size:=by rw [hx];simp
 have rx:Hid (x.heap[w.heap.size]?=some (.cells R 124 (0,0))):=by show _=_;rw [hx];exact heap_alloc_new _ _
 clear hx
 go_wp2_with (first
  | (refine wpList_load_row rfl 124 (.tmp 1) rfl w.heap.size rfl _ _ _ _ rx.out und_seats rfl (by rw [HR.out,size_row HP.out];exact info_seats) ?_))
 go_loopw [3,7] (fun v0 i wr=>∃(k:Nat) (v:Value),v0=v∧i=.int .i64 k∧k≤50∧wr.ownsRow (w.heap.size+1) 2 1 v (memb (ps.take k)).length (flatI (memb (ps.take k)))∧Below w.heap.size w wr∧w.heap.size+1≤wr.heap.size) (fun _ i _=>50-(intOf i).toNat)
 case atStart=>exact ⟨0,_,rfl,rfl,by omega,World.ownsRow_nil _ _ _ _,hbx,hxs⟩
 case round =>
  clear hbx rx hxs
  obtain ⟨k,v,hv,rfl,hk,hown,hwr,hws⟩:=hrel
  have hv:=hv.symm
  subst hv
  have HO:Hid (wr.ownsRow (w.heap.size+1) 2 1 v (memb (ps.take k)).length (flatI (memb (ps.take k)))):=hown
  have hml:=memb_le ps k
  have HML:Hid ((memb (ps.take k)).length≤50):=by rw [←HP.out];exact hml
  clear hml hown
  by_cases hlt:k<50
  ·have hlt':(k:Int)<50:=by omega
   have hkp:k<ps.length:=by rw [HP.out];exact hlt
   have HI:Hid (∀w,(Instr.index 124 (.agg R) (.int .i64 (k:Int))).run Tryz.prog w=.ok (.agg #[.int .i64 ps[k].1,.bool ps[k].2]) w):=fun w=>by rw [HR.out];exact index_seat HP.out k hkp w
   have HY:Hid (ps[k].2=true→memb (ps.take (k+1))=memb (ps.take k) ++ [ps[k].1]):=memb_yes hkp
   have HN:Hid (ps[k].2=false→memb (ps.take (k+1))=memb (ps.take k)):=memb_no hkp
   obtain ⟨y,hy⟩:∃y,ps[k].1=y:=⟨_,rfl⟩
   obtain ⟨f,hf⟩:∃f,ps[k].2=f:=⟨_,rfl⟩
   rw [hy,hf] at HI
   rw [hy,hf] at HY
   rw [hf] at HN
   clear hy hf hkp
   obtain ⟨ys,hys⟩:∃ys,ys=memb (ps.take k):=⟨_,rfl⟩
   rw [←hys] at HO HML HY HN
   clear hys
   cases f
   ·go_wp2_with (first
     | (refine wpList_index_row rfl 124 (.tmp 6) (.tmp 7) rfl _ (HI.out _) ?_))
    go_roundw
    case rel=>exact ⟨k+1,_,rfl,by go_num,by omega,by rw [HN.out rfl];exact row_next HO.out (new_below _ _),below_two hwr (new_below _ _),by simp;omega⟩
    case measure=>simp [intOf]<;>omega
   ·go_upto_region 6 with (first
     | (refine wpList_index_row rfl 124 (.tmp 6) (.tmp 7) rfl _ (HI.out _) ?_))
    obtain ⟨x5,hx5⟩:∃x5,x5=wr.alloc (.cells #[.int .i64 y,.bool true] 122):=⟨_,rfl⟩
    rw [←hx5]
    have hb5:Below wr.heap.size wr x5:=by rw [hx5];exact new_below _ _
    have c5:x5.cell? ⟨wr.heap.size,0,none⟩=some (.int .i64 y):=by rw [hx5];go_simp
    have ho5:=row_next HO.out hb5
    have z5:=hb5.size
    have hlm:=HML.out
    clear hx5
    go_wp2_with (first
     | (at_builtin;refine wpList_append_own _ rfl _ _ 45 rfl (w.heap.size+1) 2 i0 _ 1 8 Tryz.underlying45 hi hz0 hz1 hz2 rfl (by decide) _ _ _ rfl (ho5.alloc _) ⟨x5.heap.size,0,none⟩ 1 1 [.int .i64 y] rfl rfl (one_news (by go_simp)) (fun u hu=>by rw [List.mem_singleton] at hu;subst hu;rfl) (by unfold maxLen;omega) (by omega) (by simp;omega) ?_;intro v' w' hown' hgr hnil))
    have hb6:Below x5.heap.size x5 (x5.alloc (.cells #[.int .i64 y] 2)):=new_below _ _
    have hbw:=((below_two hwr hb5).trans (hb6.mono (by omega))).grown hgr (by simp;omega) (fun g hg=>by have:=(ho5.lt g hg).1;omega)
    have zg:=hgr.size
    go_roundw
    case rel=>exact ⟨k+1,_,rfl,by go_num,by omega,by rw [HY.out rfl,flatI_append,List.length_append];exact hown',hbw,by simp at zg;omega⟩
    case measure=>simp [intOf]<;>omega
  ·have e:k=50:=by omega
   subst e
   have HO2:Hid (wr.ownsRow (w.heap.size+1) 2 1 v (memb ps).length (flatI (memb ps))):=by
    have h:=HO.out
    rw [List.take_of_length_le (by rw [HP.out];omega)] at h
    exact h
   obtain ⟨a3,c3,rfl⟩:=own_slice HO2.out
   clear HO
   go_wp2
   go_ret
   exact ⟨_,_,_,rfl,(own_ints HO2.out).lower (by omega),hwr⟩
theorem clos_any {w:World} {c:Nat} {id:Int} (hc:w.cell? ⟨c,0,none⟩=some (.int .i64 id)) (hz:c<w.heap.size) (p:Int) (q:Bool) :
 Calls Tryz.prog 152 #[.agg #[.int .i64 p,.bool q],.pointer (some ⟨c,0,none⟩)] w fun e w'=>e=.returned (.bool (pB id (p,q)))∧Below w.heap.size w w':=by
 have hn:w.heap.size≠c:=by omega
 have hn':c≠w.heap.size:=by omega
 cases q
 ·rw [show pB id (p,false)=true from rfl]
  go_enter Tryz.func152,Tryz.ntmps152
  go_wp2
  go_ret
  exact ⟨rfl,by go_grown⟩
 ·rw [show pB id (p,true)=decide (id≤p) from rfl]
  go_enter Tryz.func152,Tryz.ntmps152
  go_wp2
  go_ret
  exact ⟨rfl,by go_grown⟩
def FstIs (f:Int × Bool→Bool) (ps:List (Int × Bool)) (z:Int):Prop:=(z = -1∧∀m (h:m<ps.length),f ps[m]=false)∨∃(k:Nat) (h:k<ps.length),z=k∧f ps[k]=true∧∀m (h:m<ps.length),m<k→f ps[m]=false
def FstPost (f:Int × Bool→Bool) (ps:List (Int × Bool)) (w:World) (e:Ending) (w':World):Prop:=∃z,e=.returned (.int .i64 z)∧FstIs f ps z∧Below w.heap.size w w'
theorem ixf_any {w:World} {g c:Nat} {id:Int} {ps:List (Int × Bool)} (h:RowB w g ps) (hc:w.cell? ⟨c,0,none⟩=some (.int .i64 id)) (hz:c<w.heap.size) :
 Calls Tryz.prog 151 #[.slice (some ⟨g,0,none⟩) 50 50,.func (.func 152) #[] #[.pointer (some ⟨c,0,none⟩)]] w (FstPost (pB id) ps w):=by
 have eg:∀args w,(callFunc 152 args).run Tryz.prog w=.ok (.enter 152 args) w:=enters_of Tryz.func152 (by kernel_rfl) rfl
 have HR:Hid (RowB w g ps):=h
 have HP:Hid (ps.length=50):=h.1
 clear h
 go_enter Tryz.func151,Tryz.ntmps151
 go_wp2
 go_loopw [8] (fun i wr=>∃k:Nat,i=.int .i64 k∧k≤50∧(∀m (h:m<ps.length),m<k→pB id ps[m]=false)∧Below w.heap.size w wr) (fun i _=>50-(intOf i).toNat)
 case atStart=>exact ⟨0,rfl,by omega,(fun m h k=>by omega),Below.refl _ _⟩
 case round =>
  obtain ⟨k,rfl,hk,hall,hwr⟩:=hrel
  have HA:Hid (∀m (h:m<ps.length),m<k→pB id ps[m]=false):=hall
  clear hall
  by_cases hlt:k<50
  ·have hkp:k<ps.length:=by rw [HP.out];exact hlt
   have R:=HR.out.next hwr
   have c0:=R.c0 k hkp
   have c1:=R.c1 k hkp
   have hlt':(k:Int)<50:=by omega
   obtain ⟨p,q,hx⟩:∃p q,ps[k]=(p,q):=⟨_,_,rfl⟩
   have HX:Hid (∃h:k<ps.length,ps[k]=(p,q)):=⟨hkp,hx⟩
   rw [hx] at c0 c1
   clear hx R hkp
   simp only at c0 c1
   have hd:=clos_any (w:=wr) (id:=id) (c:=c) ((hwr.cell (by exact hz)).trans hc) (Nat.lt_of_lt_of_le hz hwr.size) p q
   cases hp:pB id (p,q)
   ·rw [hp] at hd
    have HPB:Hid (pB id (p,q)=false):=hp
    clear hp
    go_wp2_with (first|(go_at_call 152;refine hd.mono ?_;rintro e w3 ⟨rfl,hb3⟩))
    go_roundw
    case rel =>
     refine ⟨k+1,by go_num,by omega,fun m hm hk=>?_,below_step hwr hb3⟩
     by_cases e:m=k
     ·subst e
      obtain ⟨_,hx⟩:=HX.out
      rw [hx]
      exact HPB.out
     ·exact HA.out m hm (by omega)
    case measure=>simp [intOf]<;>omega
   ·rw [hp] at hd
    have HPB:Hid (pB id (p,q)=true):=hp
    clear hp
    go_wp2_with (first|(go_at_call 152;refine hd.mono ?_;rintro e w3 ⟨rfl,hb3⟩))
    go_ret
    obtain ⟨hkp,hx⟩:=HX.out
    exact ⟨k,rfl,.inr ⟨k,hkp,rfl,by rw [hx];exact HPB.out,HA.out⟩,below_step hwr hb3⟩
  ·have e:k=50:=by omega
   subst e
   go_wp2
   go_ret
   exact ⟨_,rfl,.inl ⟨rfl,fun m hm=>HA.out m hm (by rw [←HP.out];exact hm)⟩,hwr⟩
def eB (id:Int) (p:Int × Bool):Bool:=decide (p=(id,true))
theorem ix_any {w:World} {g:Nat} {id:Int} {ps:List (Int × Bool)} (h:RowB w g ps) :
 Calls Tryz.prog 153 #[.slice (some ⟨g,0,none⟩) 50 50,.agg #[.int .i64 id,.bool true]] w (FstPost (eB id) ps w):=by
 have HR:Hid (RowB w g ps):=h
 have HP:Hid (ps.length=50):=h.1
 clear h
 go_enter Tryz.func153,Tryz.ntmps153
 go_upto_region 1 with (fail)
 obtain ⟨x,hx⟩:∃x,x=w.alloc (.cells #[.int .i64 id,.bool true] 122):=⟨_,rfl⟩
 rw [←hx]
 have hbx:Below w.heap.size w x:=by rw [hx];go_grown
 have b0:x.cell? ⟨w.heap.size,0,none⟩=some (.int .i64 id):=by rw [hx];go_simp
 have b1:x.cell? ⟨w.heap.size,1,none⟩=some (.bool true):=by rw [hx];go_simp
 have hxz:w.heap.size<x.heap.size:=by rw [hx];simp
 clear hx
 go_wp2
 go_loopw [8] (fun i wr=>∃k:Nat,i=.int .i64 k∧k≤50∧(∀m (h:m<ps.length),m<k→eB id ps[m]=false)∧Below x.heap.size x wr) (fun i _=>50-(intOf i).toNat)
 case atStart=>exact ⟨0,rfl,by omega,(fun m h k=>by omega),Below.refl _ _⟩
 case round =>
  obtain ⟨k,rfl,hk,hall,hwr⟩:=hrel
  have HA:Hid (∀m (h:m<ps.length),m<k→eB id ps[m]=false):=hall
  have hww:Below w.heap.size w wr:=below_two hbx hwr
  have b0:=(hwr.cell (p:=⟨w.heap.size,0,none⟩) (by exact hxz)).trans b0
  have b1:=(hwr.cell (p:=⟨w.heap.size,1,none⟩) (by exact hxz)).trans b1
  clear hall
  by_cases hlt:k<50
  ·have hkp:k<ps.length:=by rw [HP.out];exact hlt
   have R:=HR.out.next hww
   have c0:=R.c0 k hkp
   have c1:=R.c1 k hkp
   have hlt':(k:Int)<50:=by omega
   obtain ⟨p,q,hx⟩:∃p q,ps[k]=(p,q):=⟨_,_,rfl⟩
   have HX:Hid (∃h:k<ps.length,ps[k]=(p,q)):=⟨hkp,hx⟩
   rw [hx] at c0 c1
   clear hx R hkp
   simp only at c0 c1
   by_cases hp:p=id
   ·subst hp
    cases q
    ·go_wp2
     go_quiet (fail)
     go_wp2
     go_roundw
     case rel =>
      refine ⟨k+1,by go_num,by omega,fun m hm hk=>?_,below_drews hwr _⟩
      by_cases e:m=k
      ·subst e
       obtain ⟨_,hx⟩:=HX.out
       rw [hx]
       exact decide_eq_false (fun e=>by cases e)
      ·exact HA.out m hm (by omega)
     case measure=>simp [intOf]<;>omega
    ·go_wp2
     go_quiet (fail)
     go_wp2
     go_ret
     obtain ⟨hkp,hx⟩:=HX.out
     exact ⟨k,rfl,.inr ⟨k,hkp,rfl,by rw [hx];exact decide_eq_true rfl,HA.out⟩,below_drews hww _⟩
   ·have hp':(id == p)=false:=beq_eq_false_iff_ne.2 (fun e=>hp e.symm)
    have hp2:¬id=p:=fun e=>hp e.symm
    have HN:Hid (¬p=id):=hp
    clear hp
    go_wp2
    go_quiet (fail)
    go_wp2
    go_roundw
    case rel =>
     refine ⟨k+1,by go_num,by omega,fun m hm hk=>?_,below_drews hwr _⟩
     by_cases e:m=k
     ·subst e
      obtain ⟨_,hx⟩:=HX.out
      rw [hx]
      exact decide_eq_false (fun e=>HN.out (by injection e))
     ·exact HA.out m hm (by omega)
    case measure=>simp [intOf]<;>omega
  ·have e:k=50:=by omega
   subst e
   go_wp2
   go_ret
   exact ⟨_,rfl,.inl ⟨rfl,fun m hm=>HA.out m hm (by rw [←HP.out];exact hm)⟩,hww⟩
theorem sliceB_run {g d:Nat} {z:Int} (hz:z=(d:Int)) (hd:d≤50) (w:World):(Instr.sliceAt 124 (.pointer (some ⟨g,0,none⟩)) (some (.int .i64 z)) none none).run Tryz.prog w=.ok (.slice (some (if 50=d then (⟨g,0,none⟩:Addr) else ⟨g,d*2,none⟩)) (50-d) (50-d)) w:=by
 subst hz
 have h0:(0:Int)≤(d:Int):=by omega
 have h1:(d:Int)≤50:=by omega
 have hs:(sizeOf 122).run Tryz.prog w=.ok 2 w:=by
  obtain ⟨i0,hi,_,hz1,_⟩:=info_parts info_seat
  simp [sizeOf,typeInfo,hi,hz1]
 have e2:(⟨g,0,none⟩:Addr).add (d*2)=⟨g,d*2,none⟩:=by unfold Addr.add;split <;> simp_all
 simp [Instr.sliceAt,Instr.sureAddr,asAddr,Instr.sliceBounds,Instr.sliceBound,asIntOf,run_underlying und_seats,h0,h1,hd,hs,e2]
theorem fst_yes {f:Int × Bool→Bool} {ps:List (Int × Bool)} {z:Int} (h:FstIs f ps z) (k:Nat) (hk:k<ps.length) (hf:f ps[k]=true):∃(k:Nat) (h:k<ps.length),z=k∧f ps[k]=true∧∀m (h:m<ps.length),m<k→f ps[m]=false:=by
 rcases h with ⟨_,h⟩|h
 ·have:=h k hk
  rw [hf] at this
  cases this
 ·exact h
theorem with_new {w:World} {id:Int} {xs:List Int} (hM:MemTo xs xs.length) (hl:xs.length<50) (hh:hasI id xs=false):Calls Tryz.prog 114 #[.agg (flatB (seatsR xs)).toArray,.int .i64 id] w (SeatPost w (seatsR (insI xs id))):=by
 obtain ⟨Z,zs,HZ,hz⟩:=seats_zero
 have hmf:∀(fn:Fn) (first cap:Array Value) (w:World),(Instr.makeFunc fn first cap).run Tryz.prog w=.ok (.func fn first cap) w:=fun _ _ _ _=>rfl
 have hl50:(seatsR xs).length=50:=seatsR_len (by omega)
 have HL:Hid ((seatsR xs).length=50):=hl50
 obtain ⟨R,hR⟩:∃R:Array Value,R=(flatB (seatsR xs)).toArray:=⟨_,rfl⟩
 have HR:Hid (R=(flatB (seatsR xs)).toArray):=hR
 rw [←hR]
 clear hR hl50
 go_enter Tryz.func114,Tryz.ntmps114
 go_upto_region 2 with (fail)
 obtain ⟨x,hx⟩:∃x,x=(((w.alloc (.cells R 124)).alloc (.cells #[.int .i64 id] 2)).alloc (.cells Z 124)).alloc (.cells #[.int .i64 id,.bool true] 122):=⟨_,rfl⟩
 rw [←hx]
 have hbx:Below w.heap.size w x:=by rw [hx];go_grown
 have hxs:w.heap.size+3<x.heap.size:=by rw [hx];simp
 have rp:RowB x w.heap.size (seatsR xs):=by rw [hx,HR.out];exact (rowB_new w HL.out).next (by go_grown)
 have rz:RowB x (w.heap.size+2) zs:=by
  have h:=rowB_new ((w.alloc (.cells R 124)).alloc (.cells #[.int .i64 id] 2)) HZ.out.2.2
  rw [←HZ.out.1,show ((w.alloc (.cells R 124)).alloc (.cells #[.int .i64 id] 2)).heap.size=w.heap.size+2 by simp] at h
  rw [hx]
  exact h.next (by go_grown)
 have i0:x.cell? ⟨w.heap.size+1,0,none⟩=some (.int .i64 id):=by rw [hx];go_simp
 have d0:x.cell? ⟨w.heap.size+1+1+1,0,none⟩=some (.int .i64 id):=by rw [hx];go_simp
 have d1:x.cell? ⟨w.heap.size+1+1+1,1,none⟩=some (.bool true):=by rw [hx];go_simp
 clear hx hz HZ
 have hix:=ixf_any (c:=w.heap.size+1) rp i0 (by omega)
 have RP:Hid (RowB x w.heap.size (seatsR xs)):=rp
 have RZ:Hid (RowB x (w.heap.size+2) zs):=rz
 clear rp rz i0
 go_upto_region 3 with (first
  | (go_at_call 151;refine hix.mono ?_;clear hix;rintro e w4 ⟨z,rfl,hz,hb4⟩))
 obtain ⟨k,hk,rfl,hk1,hk2⟩:=fst_yes hz xs.length (by rw [HL.out];omega) (by rw [seatsR_out (Nat.le_refl _)];rfl)
 clear hz
 obtain ⟨hkn,hbef,hat⟩:=find_seat (by omega) hk hk1 hk2
 have RP:Hid (RowB w4 w.heap.size (seatsR xs)):=RP.out.next hb4
 have RZ:Hid (RowB w4 (w.heap.size+2) zs):=RZ.out.next hb4
 have z4:=hb4.size
 have d0:=(hb4.cell (p:=⟨w.heap.size+1+1+1,0,none⟩) (by show w.heap.size+1+1+1<_;omega)).trans d0
 have d1:=(hb4.cell (p:=⟨w.heap.size+1+1+1,1,none⟩) (by show w.heap.size+1+1+1<_;omega)).trans d1
 have hbw:Below w.heap.size w w4:=below_two hbx hb4
 have hk5:(k:Int)<50:=by have:=HL.out;omega
 have hk0:(0:Int)≤(k:Int):=by omega
 have c0:=RP.out.c0 k hk
 have c1:=RP.out.c1 k hk
 have HINS:Hid ((splice (seatsR xs) (k+1) (((seatsR xs).drop k).take (49-k))).set k (id,true)=seatsR (insI xs id)):=by
  show _=_
  rw [seatsR_ins hkn hl,insI_at hkn hbef (fun h=>by have:=hat h;omega)]
 have hne:¬((seatsR xs)[k].1=id∧(seatsR xs)[k].2=true):=by
  rintro ⟨e1,e2⟩
  have:∃h:k<xs.length,xs[k]=id:=by
   rcases Nat.lt_or_ge k xs.length with h|h
   ·rw [seatsR_in h] at e1
    exact ⟨h,e1⟩
   ·rw [seatsR_out h] at e2
    cases e2
  rw [(find_has_SeatMath hM hbef hat).2 this] at hh
  cases hh
 obtain ⟨y,hy⟩:∃y,(seatsR xs)[k].1=y:=⟨_,rfl⟩
 obtain ⟨f,hf⟩:∃f,(seatsR xs)[k].2=f:=⟨_,rfl⟩
 rw [hy,hf] at hne
 rw [hy] at c0
 rw [hf] at c1
 have HK:Hid (k<(seatsR xs).length):=hk
 clear hy hf hbef hat hk1 hk2 hk
 go_cut [16] from 12 to 16 (fun s wc=>s=.bool true∧Below w4.heap.size w4 wc)
 case first =>
  by_cases h1:y=id
  ·subst h1
   cases f
   ·go_quiet (fail)
    go_wp2
    go_meet
    exact ⟨rfl,below_drews (Below.refl _ _) _⟩
   ·exact absurd ⟨rfl,rfl⟩ hne
  ·have h2:(y == id)=false:=beq_eq_false_iff_ne.2 h1
   clear hne
   go_quiet (fail)
   go_wp2
   go_meet
   exact ⟨rfl,below_drews (Below.refl _ _) _⟩
 case rest =>
  obtain ⟨rfl,hbc⟩:=hcut
  have RPc:Hid (RowB wc w.heap.size (seatsR xs)):=RP.out.next hbc
  have RZc:Hid (RowB wc (w.heap.size+2) zs):=RZ.out.next hbc
  have d0:=(hbc.cell (p:=⟨w.heap.size+1+1+1,0,none⟩) (by show w.heap.size+1+1+1<_;omega)).trans d0
  have d1:=(hbc.cell (p:=⟨w.heap.size+1+1+1,1,none⟩) (by show w.heap.size+1+1+1<_;omega)).trans d1
  have hbw:=below_two hbw hbc
  have zc:=hbc.size
  clear c0 c1 hne hbc
  have hk50:k<50:=by omega
  have HS1:Hid (∀w,(Instr.sliceAt 124 (.pointer (some ⟨w4.heap.size,0,none⟩)) (some (.int .i64 0)) none none).run Tryz.prog w=(Instr.sliceAt 124 (.pointer (some ⟨w4.heap.size,0,none⟩)) (some (.int .i64 0)) none none).run Tryz.prog w):=fun _=>rfl
  obtain ⟨X1,hX1⟩:∃X:Addr,(if 50=k+1 then (⟨w.heap.size,0,none⟩:Addr) else ⟨w.heap.size,(k+1)*2,none⟩)=X:=⟨_,rfl⟩
  obtain ⟨X2,hX2⟩:∃X:Addr,(if 50=k then (⟨w.heap.size,0,none⟩:Addr) else ⟨w.heap.size,k*2,none⟩)=X:=⟨_,rfl⟩
  have HD1:Hid (∀w',(Instr.sliceAt 124 (.pointer (some ⟨w.heap.size,0,none⟩)) (some (.int .i64 ((k:Int)+1))) none none).run Tryz.prog w'=.ok (.slice (some X1) (50-(k+1)) (50-(k+1))) w'):=fun w'=>by rw [←hX1];exact sliceB_run (by omega) (by omega) w'
  have HD2:Hid (∀w',(Instr.sliceAt 124 (.pointer (some ⟨w.heap.size,0,none⟩)) (some (.int .i64 (k:Int))) none none).run Tryz.prog w'=.ok (.slice (some X2) (50-k) (50-k)) w'):=fun w'=>by rw [←hX2];exact sliceB_run rfl (by omega) w'
  have RPd:RowB wc.drew w.heap.size (seatsR xs):=RPc.out.next (Below.refl _ _).drew
  obtain ⟨w5,hcp,R5,o5⟩:=copyB RPd 3 (k+1) k (49-k) (50-(k+1)) (50-k) X1 X2 (fun h=>by rw [←hX1,if_neg (by omega)]) (fun h=>by rw [←hX2,if_neg (by omega)]) (by omega) (by show 49-k=min (50-k) (50-(k+1));omega)
  clear RPd hX1 hX2 HS1
  have R5:Hid (RowB w5 w.heap.size (splice (seatsR xs) (k+1) (((seatsR xs).drop k).take (49-k)))):=R5
  have o5:Only w.heap.size wc w5:=Only.trans (Only.of_below (Below.refl _ _).drew) o5
  obtain ⟨M1,hM1⟩:∃M,M=50-(k+1):=⟨_,rfl⟩
  obtain ⟨M2,hM2⟩:∃M,M=50-k:=⟨_,rfl⟩
  rw [←hM1] at HD1 hcp
  rw [←hM2] at HD2 hcp
  clear hM1 hM2
  have rw1:IntKind.i64.wrap ((k:Int)+1)=(k:Int)+1:=by rw [IntKind.wrap_i64];omega
  go_upto_region 4 with (fail)
  have hS0:(fun _:World=>True) wc.drew:=trivial
  refine wp_region_held_drew (S:=fun _=>True) (by kernel_rfl) (hS0) (fun hS=>?_)
  refine anyR 0 rfl ?_
  refine anyR 1 rfl ?_
  refine anyV 2 (v:=.slice (some X1) M1 M1) rfl ?_ ?_
  ·(intro w' hSw;(try dsimp only at hSw);have h:=HD1.out w';simp [execOp,Act.eval,h,Result.andThen])
  try simp only [nrm]
  refine anyR 3 rfl ?_
  refine anyV 4 (v:=.slice (some X2) M2 M2) rfl ?_ ?_
  ·(intro w' hSw;(try dsimp only at hSw);have h:=HD2.out w';simp [execOp,Act.eval,h,Result.andThen])
  try simp only [nrm]
  refine anyC 5 rfl fun K hK=>?_
  go_simp
  skip
  refine hK.out _ _ ‹_› fun _=>?_
  try simp only [nrm]
  refine wpAnyH_done (by kernel_rfl) ?_ _
  have d0:=(o5.cell (p:=⟨w.heap.size+1+1+1,0,none⟩) (by show w.heap.size+1+1+1<_;omega) (by show w.heap.size+1+1+1≠_;omega)).trans d0
  have d1:=(o5.cell (p:=⟨w.heap.size+1+1+1,1,none⟩) (by show w.heap.size+1+1+1<_;omega) (by show w.heap.size+1+1+1≠_;omega)).trans d1
  have RZ5:Hid (RowB w5 (w.heap.size+2) zs):=RZc.out.only o5 (by omega)
  have hb5:Below w.heap.size w w5:=hbw.trans (o5.below (Nat.le_refl _) hbw.size)
  have hl5:=R5.out.1
  obtain ⟨u0,e0⟩:∃u,w5.cell? ⟨w.heap.size,k*2,none⟩=some u:=⟨_,R5.out.c0 k (by omega)⟩
  obtain ⟨u1,e1⟩:∃u,w5.cell? ⟨w.heap.size,k*2+1,none⟩=some u:=⟨_,R5.out.c1 k (by omega)⟩
  have f0:=R5.out.fz
  clear hl5 hcp HD1 HD2
  go_upto_region 6 with (fail)
  obtain ⟨x9,hx9⟩:∃x,x=(w5.setCell ⟨w.heap.size,k*2,none⟩ (.int .i64 id)).setCell ⟨w.heap.size,k*2+1,none⟩ (.bool true):=⟨_,rfl⟩
  have R9:Hid (RowB x9 w.heap.size (seatsR (insI xs id))):=by rw [hx9,←HINS.out];exact R5.out.put k id true
  have o9:Only w.heap.size w5 x9:=by rw [hx9];exact only_two _ _
  rw [←hx9]
  clear hx9
  have RZ9:Hid (RowB x9 (w.heap.size+2) zs):=RZ5.out.only o9 (by omega)
  have hb9:Below w.heap.size w x9:=hb5.trans (o9.below (Nat.le_refl _) hb5.size)
  go_wp2_with (first
   | (refine wpList_load_row rfl 124 (.tmp 2) rfl (w.heap.size) rfl _ _ _ _ R9.out.2 und_seats rfl (by rw [size_row R9.out.1];exact info_seats) ?_)
   | (refine wpList_store_row rfl 124 (.tmp 4) (.tmp 26) rfl (w.heap.size+2) _ rfl rfl _ _ RZ9.out.2 (by rw [size_row R9.out.1];exact info_seats) (by rw [size_row RZ9.out.1,size_row R9.out.1]) (all_one _) ?_))
  obtain ⟨R8,o8⟩:=rowB_set RZ9.out R9.out.1
  refine bodyPost_ret (results_cell_row rfl _ _ (w.heap.size+2) _ _ _ _ rfl R8.2 und_seats rfl (by rw [size_row R8.1];exact info_seats)) rfl ?_
  exact ⟨rfl,hb9.trans (o8.below (by omega) hb9.size)⟩
theorem without_yes {w:World} {id:Int} {xs:List Int} (hM:MemTo xs xs.length) (hl:xs.length≤50) (hh:hasI id xs=true):Calls Tryz.prog 119 #[.agg (flatB (seatsR xs)).toArray,.int .i64 id] w (SeatPost w (seatsR (delI xs id))):=by
 obtain ⟨Z,zs,HZ,hz⟩:=seats_zero
 have hl50:(seatsR xs).length=50:=seatsR_len (by omega)
 have HL:Hid ((seatsR xs).length=50):=hl50
 obtain ⟨R,hR⟩:∃R:Array Value,R=(flatB (seatsR xs)).toArray:=⟨_,rfl⟩
 have HR:Hid (R=(flatB (seatsR xs)).toArray):=hR
 rw [←hR]
 clear hR hl50
 go_enter Tryz.func119,Tryz.ntmps119
 go_upto_region 1 with (fail)
 obtain ⟨x,hx⟩:∃x,x=(w.alloc (.cells R 124)).alloc (.cells Z 124):=⟨_,rfl⟩
 rw [←hx]
 have hbx:Below w.heap.size w x:=by rw [hx];go_grown
 have hxs:w.heap.size+1<x.heap.size:=by rw [hx];simp
 have rp:RowB x w.heap.size (seatsR xs):=by rw [hx,HR.out];exact (rowB_new w HL.out).next (by go_grown)
 have rz:RowB x (w.heap.size+1) zs:=by
  have h:=rowB_new (w.alloc (.cells R 124)) HZ.out.2.2
  rw [←HZ.out.1,show (w.alloc (.cells R 124)).heap.size=w.heap.size+1 by simp] at h
  rw [hx]
  exact h
 clear hx hz HZ
 have hix:=ix_any (id:=id) rp
 have RP:Hid (RowB x w.heap.size (seatsR xs)):=rp
 have RZ:Hid (RowB x (w.heap.size+1) zs):=rz
 clear rp rz
 go_upto_region 2 with (first
  | (go_at_call 153;refine hix.mono ?_;clear hix;rintro e w4 ⟨z,rfl,hz,hb4⟩))
 have RP:Hid (RowB w4 w.heap.size (seatsR xs)):=RP.out.next hb4
 have RZ:Hid (RowB w4 (w.heap.size+1) zs):=RZ.out.next hb4
 have z4:=hb4.size
 have hbw:Below w.heap.size w w4:=below_two hbx hb4
 obtain ⟨k,rfl,hkn,hke⟩:∃k:Nat,z=k∧∃h:k<xs.length,xs[k]=id:=by
  rcases hz with ⟨_,h⟩|⟨k,hk,e,h,_⟩
  ·obtain ⟨j,hj,e⟩:=List.mem_iff_getElem.1 (of_decide_eq_true hh)
   have:=h j (by rw [HL.out];omega)
   rw [seatsR_in hj,e] at this
   simp [eB] at this
  ·refine ⟨k,e,?_⟩
   have e:=of_decide_eq_true h
   rcases Nat.lt_or_ge k xs.length with h'|h'
   ·rw [seatsR_in h'] at e
    injection e with e _
    exact ⟨h',e⟩
   ·rw [seatsR_out h'] at e
    injection e with _ e
    cases e
 have HDEL:Hid ((splice (seatsR xs) k (((seatsR xs).drop (k+1)).take (49-k))).set 49 (0,false)=seatsR (delI xs id)):=by
  show _=_
  rw [seatsR_del hkn hl,delI_at hM hkn hke]
 clear hz hke
 have hk50:k<50:=by omega
 have hk5:(k:Int)<50:=by omega
 have hk0:(0:Int)≤(k:Int):=by omega
 have hkn0:¬(k:Int)<0:=by omega
 obtain ⟨X1,hX1⟩:∃X:Addr,(if 50=k then (⟨w.heap.size,0,none⟩:Addr) else ⟨w.heap.size,k*2,none⟩)=X:=⟨_,rfl⟩
 obtain ⟨X2,hX2⟩:∃X:Addr,(if 50=k+1 then (⟨w.heap.size,0,none⟩:Addr) else ⟨w.heap.size,(k+1)*2,none⟩)=X:=⟨_,rfl⟩
 have HD1:Hid (∀w',(Instr.sliceAt 124 (.pointer (some ⟨w.heap.size,0,none⟩)) (some (.int .i64 (k:Int))) none none).run Tryz.prog w'=.ok (.slice (some X1) (50-k) (50-k)) w'):=fun w'=>by rw [←hX1];exact sliceB_run rfl (by omega) w'
 have HD2:Hid (∀w',(Instr.sliceAt 124 (.pointer (some ⟨w.heap.size,0,none⟩)) (some (.int .i64 ((k:Int)+1))) none none).run Tryz.prog w'=.ok (.slice (some X2) (50-(k+1)) (50-(k+1))) w'):=fun w'=>by rw [←hX2];exact sliceB_run (by omega) (by omega) w'
 have RPd:RowB w4.drew w.heap.size (seatsR xs):=RP.out.next (Below.refl _ _).drew
 obtain ⟨n,hn⟩:∃n,n=49-k:=⟨_,rfl⟩
 obtain ⟨w5,hcp,R5,o5⟩:=copyB RPd 3 k (k+1) (49-k) (50-k) (50-(k+1)) X1 X2 (fun h=>by rw [←hX1,if_neg (by omega)]) (fun h=>by rw [←hX2,if_neg (by omega)]) (by omega) (by show 49-k=min (50-(k+1)) (50-k);omega)
 clear RPd hX1 hX2
 have R5:Hid (RowB w5 w.heap.size (splice (seatsR xs) k (((seatsR xs).drop (k+1)).take (49-k)))):=R5
 have o5:Only w.heap.size w4 w5:=Only.trans (Only.of_below (Below.refl _ _).drew) o5
 obtain ⟨M1,hM1⟩:∃M,M=50-k:=⟨_,rfl⟩
 obtain ⟨M2,hM2⟩:∃M,M=50-(k+1):=⟨_,rfl⟩
 rw [←hM1,←hM2,←hn] at hcp
 rw [←hM1] at HD1
 rw [←hM2] at HD2
 have rw1:IntKind.i64.wrap ((k:Int)+1)=(k:Int)+1:=by rw [IntKind.wrap_i64];omega
 have rw2:IntKind.i64.wrap ((k:Int)+(n:Int))=49:=by rw [IntKind.wrap_i64];omega
 have hgi:goInt n=.int .i64 (n:Int):=rfl
 rw [hgi] at hcp
 clear hM1 hM2 hn hgi
 go_upto_region 4 with (fail)
 have hS0:(fun _:World=>True) w4.drew:=trivial
 refine wp_region_held_drew (S:=fun _=>True) (by kernel_rfl) (hS0) (fun hS=>?_)
 refine anyR 0 rfl ?_
 refine anyV 1 (v:=.slice (some X1) M1 M1) rfl ?_ ?_
 ·(intro w' hSw;(try dsimp only at hSw);have h:=HD1.out w';simp [execOp,Act.eval,h,Result.andThen])
 try simp only [nrm]
 refine anyR 2 rfl ?_
 refine anyR 3 rfl ?_
 refine anyV 4 (v:=.slice (some X2) M2 M2) rfl ?_ ?_
 ·(intro w' hSw;(try dsimp only at hSw);have h:=HD2.out w';simp [execOp,Act.eval,h,Result.andThen])
 try simp only [nrm]
 refine anyC 5 rfl fun K hK=>?_
 go_simp
 skip
 refine hK.out _ _ ‹_› fun _=>?_
 try simp only [nrm]
 refine anyR 6 rfl ?_
 refine wpAnyH_done (by kernel_rfl) ?_ _
 have RZ5:Hid (RowB w5 (w.heap.size+1) zs):=RZ.out.only o5 (by omega)
 have hb5:Below w.heap.size w w5:=hbw.trans (o5.below (Nat.le_refl _) hbw.size)
 obtain ⟨w6,hcl,R6,o6⟩:=clearB R5.out 0 1
 have R9:Hid (RowB w6 w.heap.size (seatsR (delI xs id))):=by rw [←HDEL.out];exact R6
 have RZ9:Hid (RowB w6 (w.heap.size+1) zs):=RZ5.out.only o6 (by omega)
 have hb9:Below w.heap.size w w6:=hb5.trans (o6.below (Nat.le_refl _) hb5.size)
 clear R6 hcp HD1 HD2
 go_wp2_with (first
  | (refine wpList_load_row rfl 124 (.tmp 2) rfl (w.heap.size) rfl _ _ _ _ R9.out.2 und_seats rfl (by rw [size_row R9.out.1];exact info_seats) ?_)
  | (refine wpList_store_row rfl 124 (.tmp 4) (.tmp 24) rfl (w.heap.size+1) _ rfl rfl _ _ RZ9.out.2 (by rw [size_row R9.out.1];exact info_seats) (by rw [size_row RZ9.out.1,size_row R9.out.1]) (all_one _) ?_))
 obtain ⟨R8,o8⟩:=rowB_set RZ9.out R9.out.1
 refine bodyPost_ret (results_cell_row rfl _ _ (w.heap.size+1) _ _ _ _ rfl R8.2 und_seats rfl (by rw [size_row R8.1];exact info_seats)) rfl ?_
 exact ⟨rfl,hb9.trans (o8.below (by omega) hb9.size)⟩
theorem insI_len {xs:List Int} {id:Int}:(insI xs id).length=xs.length+1:=by
 unfold insI
 rw [List.length_append,List.length_cons]
 have h:=congrArg List.length (List.takeWhile_append_dropWhile (p:=fun y=>decide (y<id)) (l:=xs))
 rw [List.length_append] at h
 omega
theorem delI_lt {xs:List Int} {id:Int} (h:hasI id xs=true):(delI xs id).length<xs.length:=by
 unfold delI
 rcases Nat.lt_or_ge (xs.filter fun y=>!decide (y=id)).length xs.length with k|k
 ·exact k
 ·have e:=List.length_filter_eq_length_iff.1 (Nat.le_antisymm (List.length_filter_le _ _) k)
  have:=e id (of_decide_eq_true h)
  simp at this
theorem implJoin_yes {wd fl id:Int} {w:World} {a:Option Addr} (cap:Nat) {xs:List Int} (hp:plB wd fl xs=true) (hn:inQ 0 id 1000000=true) (h5:xs.length<50) (hh:hasI id xs=false) (smp:ISmp w.heap.size w a xs):Calls Tryz.prog 46 #[.agg #[.int .i64 wd,.int .i64 fl,.slice a xs.length cap],.int .i64 id] w (AnsPT w (insI xs id) wd fl true):=by
 obtain ⟨Z,zs,HZ,hz⟩:=seats_zero
 have hl:=(pl_num hp).2.2
 have hMT:=(pl_yes hp).2.2.2
 have hgd:Tryz.prog.eqGuardType Tryz.prog.depth 124=false:=by kernel_rfl
 have h5':¬((xs.length:Int)=50):=by omega
 have h5b:((xs.length:Int) == 50)=false:=beq_eq_false_iff_ne.2 h5'
 have heq:∀w:World,(Op.equalIn 10000 124 (.agg (flatB (seatsR (insI xs id))).toArray) (.agg (flatB (seatsR xs)).toArray)).run Tryz.prog w=.ok false w:=fun w=>by rw [eq_rows w _ _ (seatsR_len (by rw [insI_len];omega)) (seatsR_len hl)];congr 1;exact decide_eq_false (fun e=>by have h:=congrArg List.length (seatsR_inj e);rw [insI_len] at h;omega)
 go_enter Tryz.func46,Tryz.ntmps46
 go_upto_region 4 with (first
  | (go_at_call 112;refine (implPlaceOk_is cap hp (smp.here (by go_grown))).mono ?_;rintro e w3 ⟨rfl,hbw3⟩;have hbw:Below w.heap.size w w3:=below_two (by go_grown) hbw3;have kc:=below_cells4 hbw3;have kf:=below_frozens4 hbw3;have zl:=hbw3.size;(try simp at zl);have p0:w3.cell? ⟨w.heap.size,0,none⟩=some (.int .i64 wd):=(kc _ _ (by simp;try omega)).trans (by go_simp);have p1:w3.cell? ⟨w.heap.size,1,none⟩=some (.int .i64 fl):=(kc _ _ (by simp;try omega)).trans (by go_simp);have p2:w3.cell? ⟨w.heap.size,2,none⟩=some (.slice a xs.length cap):=(kc _ _ (by simp;try omega)).trans (by go_simp);have v0:w3.cell? ⟨w.heap.size+1,0,none⟩=some (.int .i64 0):=(kc _ _ (by simp;try omega)).trans (by go_simp);have v1:w3.cell? ⟨w.heap.size+1,1,none⟩=some (.int .i64 0):=(kc _ _ (by simp;try omega)).trans (by go_simp);have v2:w3.cell? ⟨w.heap.size+1,2,none⟩=some (.slice none 0 0):=(kc _ _ (by simp;try omega)).trans (by go_simp);have vz:∀o:Nat,w3.frozen? ⟨w.heap.size+1,o,none⟩=false:=(fun o=>(kf _ _ (by simp;try omega)).trans (by go_simp));have pz:∀o:Nat,w3.frozen? ⟨w.heap.size,o,none⟩=false:=(fun o=>(kf _ _ (by simp;try omega)).trans (by go_simp));clear kc kf)
  | (go_at_call 103;refine (iId_is hn _).mono ?_;rintro e wM ⟨rfl,hM⟩;have hM:=hM.symm;subst hM)
  | (go_at_call 113;refine (seatsOf_any cap hl (smp.here hbw)).mono ?_;rintro e w5 ⟨rfl,hb5⟩;have qw5:=zl;have hbw:Below w.heap.size w w5:=below_two hbw hb5;have p0:=(hb5.cell (p:=⟨w.heap.size,0,none⟩) (by show w.heap.size<_;omega)).trans p0;have p1:=(hb5.cell (p:=⟨w.heap.size,1,none⟩) (by show w.heap.size<_;omega)).trans p1;have p2:=(hb5.cell (p:=⟨w.heap.size,2,none⟩) (by show w.heap.size<_;omega)).trans p2;have v0:=(hb5.cell (p:=⟨w.heap.size+1,0,none⟩) (by show w.heap.size+1<_;omega)).trans v0;have v1:=(hb5.cell (p:=⟨w.heap.size+1,1,none⟩) (by show w.heap.size+1<_;omega)).trans v1;have v2:=(hb5.cell (p:=⟨w.heap.size+1,2,none⟩) (by show w.heap.size+1<_;omega)).trans v2;have vz:∀o:Nat,w5.frozen? ⟨w.heap.size+1,o,none⟩=false:=fun o=>(hb5.frozen (p:=⟨w.heap.size+1,o,none⟩) (by show w.heap.size+1<_;omega)).trans (vz o);have zl:w.heap.size+1+1≤w5.heap.size:=Nat.le_trans zl hb5.size;have pz:∀o:Nat,w5.frozen? ⟨w.heap.size,o,none⟩=false:=(fun o=>(hb5.frozen (p:=⟨w.heap.size,o,none⟩) (by show w.heap.size<_;omega)).trans (pz o)))
  | (refine wpList_store_row rfl 124 (.tmp 6) (.tmp 25) rfl _ _ rfl rfl _ _ (heap_alloc_new _ _) (by rw [size_row (seatsR_len hl)];exact info_seats) (by rw [HZ.out.1,size_row HZ.out.2.2,size_row (seatsR_len hl)]) (all_one _) ?_))
 obtain ⟨x5,hx5⟩:∃x,x=(w5.alloc (.cells Z 124)).setRow w5.heap.size (flatB (seatsR xs)).toArray:=⟨_,rfl⟩
 obtain ⟨g1,eg1⟩:∃b,b=w5.heap.size:=⟨_,rfl⟩
 rw [←hx5,←eg1]
 have kx5:Below w5.heap.size w5 x5:=by rw [hx5];exact below_setRow (new_below _ _) (Nat.le_refl _) _
 have R1:Hid (RowB x5 g1 (seatsR xs)):=by rw [hx5,eg1];exact ⟨seatsR_len hl,setRow_heap _ _ _ _ _ _ (heap_alloc_new _ _)⟩
 have yg1:w5.heap.size≤g1:=by omega
 have ug1:g1<x5.heap.size:=by have:=R1.out.z;exact this
 clear hx5 eg1
 have zqx5:=zl
 have hbw:Below w.heap.size w x5:=below_two hbw kx5
 have p0:=(kx5.cell (p:=⟨w.heap.size,0,none⟩) (by show w.heap.size<_;omega)).trans p0
 have p1:=(kx5.cell (p:=⟨w.heap.size,1,none⟩) (by show w.heap.size<_;omega)).trans p1
 have p2:=(kx5.cell (p:=⟨w.heap.size,2,none⟩) (by show w.heap.size<_;omega)).trans p2
 have v0:=(kx5.cell (p:=⟨w.heap.size+1,0,none⟩) (by show w.heap.size+1<_;omega)).trans v0
 have v1:=(kx5.cell (p:=⟨w.heap.size+1,1,none⟩) (by show w.heap.size+1<_;omega)).trans v1
 have v2:=(kx5.cell (p:=⟨w.heap.size+1,2,none⟩) (by show w.heap.size+1<_;omega)).trans v2
 have vz:∀o:Nat,x5.frozen? ⟨w.heap.size+1,o,none⟩=false:=fun o=>(kx5.frozen (p:=⟨w.heap.size+1,o,none⟩) (by show w.heap.size+1<_;omega)).trans (vz o)
 have zl:w.heap.size+1+1≤x5.heap.size:=Nat.le_trans zl kx5.size
 have pz:∀o:Nat,x5.frozen? ⟨w.heap.size,o,none⟩=false:=(fun o=>(kx5.frozen (p:=⟨w.heap.size,o,none⟩) (by show w.heap.size<_;omega)).trans (pz o))
 go_upto_region 5 with (first
  | (refine wpList_load_row rfl 124 (.tmp 6) rfl _ rfl _ _ _ _ R1.out.2 und_seats rfl (by rw [size_row R1.out.1];exact info_seats) ?_)
  | (go_at_call 114;refine (with_new hMT h5 hh).mono ?_;rintro e w6 ⟨rfl,hb6⟩;have qw6:=zl;have hbw:Below w.heap.size w w6:=below_two hbw hb6;have p0:=(hb6.cell (p:=⟨w.heap.size,0,none⟩) (by show w.heap.size<_;omega)).trans p0;have p1:=(hb6.cell (p:=⟨w.heap.size,1,none⟩) (by show w.heap.size<_;omega)).trans p1;have p2:=(hb6.cell (p:=⟨w.heap.size,2,none⟩) (by show w.heap.size<_;omega)).trans p2;have v0:=(hb6.cell (p:=⟨w.heap.size+1,0,none⟩) (by show w.heap.size+1<_;omega)).trans v0;have v1:=(hb6.cell (p:=⟨w.heap.size+1,1,none⟩) (by show w.heap.size+1<_;omega)).trans v1;have v2:=(hb6.cell (p:=⟨w.heap.size+1,2,none⟩) (by show w.heap.size+1<_;omega)).trans v2;have vz:∀o:Nat,w6.frozen? ⟨w.heap.size+1,o,none⟩=false:=fun o=>(hb6.frozen (p:=⟨w.heap.size+1,o,none⟩) (by show w.heap.size+1<_;omega)).trans (vz o);have zl:w.heap.size+1+1≤w6.heap.size:=Nat.le_trans zl hb6.size;have pz:∀o:Nat,w6.frozen? ⟨w.heap.size,o,none⟩=false:=(fun o=>(hb6.frozen (p:=⟨w.heap.size,o,none⟩) (by show w.heap.size<_;omega)).trans (pz o));have R1:Hid (RowB w6 g1 (seatsR xs)):=R1.out.next hb6)
  | (refine wpList_store_row rfl 124 (.tmp 7) (.tmp 28) rfl _ _ rfl rfl _ _ (heap_alloc_new _ _) (by rw [size_row (seatsR_len (by rw [insI_len];omega))];exact info_seats) (by rw [HZ.out.1,size_row HZ.out.2.2,size_row (seatsR_len (by rw [insI_len];omega))]) (all_one _) ?_))
 obtain ⟨x6,hx6⟩:∃x,x=(w6.alloc (.cells Z 124)).setRow w6.heap.size (flatB (seatsR (insI xs id))).toArray:=⟨_,rfl⟩
 obtain ⟨g2,eg2⟩:∃b,b=w6.heap.size:=⟨_,rfl⟩
 rw [←hx6,←eg2]
 have kx6:Below w6.heap.size w6 x6:=by rw [hx6];exact below_setRow (new_below _ _) (Nat.le_refl _) _
 have R2:Hid (RowB x6 g2 (seatsR (insI xs id))):=by rw [hx6,eg2];exact ⟨(seatsR_len (by rw [insI_len];omega)),setRow_heap _ _ _ _ _ _ (heap_alloc_new _ _)⟩
 have yg2:w6.heap.size≤g2:=by omega
 have ug2:g2<x6.heap.size:=by have:=R2.out.z;exact this
 clear hx6 eg2
 have zqx6:=zl
 have hbw:Below w.heap.size w x6:=below_two hbw kx6
 have p0:=(kx6.cell (p:=⟨w.heap.size,0,none⟩) (by show w.heap.size<_;omega)).trans p0
 have p1:=(kx6.cell (p:=⟨w.heap.size,1,none⟩) (by show w.heap.size<_;omega)).trans p1
 have p2:=(kx6.cell (p:=⟨w.heap.size,2,none⟩) (by show w.heap.size<_;omega)).trans p2
 have v0:=(kx6.cell (p:=⟨w.heap.size+1,0,none⟩) (by show w.heap.size+1<_;omega)).trans v0
 have v1:=(kx6.cell (p:=⟨w.heap.size+1,1,none⟩) (by show w.heap.size+1<_;omega)).trans v1
 have v2:=(kx6.cell (p:=⟨w.heap.size+1,2,none⟩) (by show w.heap.size+1<_;omega)).trans v2
 have vz:∀o:Nat,x6.frozen? ⟨w.heap.size+1,o,none⟩=false:=fun o=>(kx6.frozen (p:=⟨w.heap.size+1,o,none⟩) (by show w.heap.size+1<_;omega)).trans (vz o)
 have zl:w.heap.size+1+1≤x6.heap.size:=Nat.le_trans zl kx6.size
 have pz:∀o:Nat,x6.frozen? ⟨w.heap.size,o,none⟩=false:=(fun o=>(kx6.frozen (p:=⟨w.heap.size,o,none⟩) (by show w.heap.size<_;omega)).trans (pz o))
 have R1:Hid (RowB x6 g1 (seatsR xs)):=R1.out.next kx6
 go_upto_region 8 with (first
  | (refine wpList_load_row rfl 124 (.tmp 7) rfl _ rfl _ _ _ _ R2.out.2 und_seats rfl (by rw [size_row R2.out.1];exact info_seats) ?_)
  | (refine wpList_load_row rfl 124 (.tmp 6) rfl _ rfl _ _ _ _ R1.out.2 und_seats rfl (by rw [size_row R1.out.1];exact info_seats) ?_)
  | (go_at_call 115;refine (members_any R2.out.1).mono ?_;rintro e w7 ⟨a5,n5,c5,rfl,iv7,hb7⟩;have qw7:=zl;have hbw:Below w.heap.size w w7:=below_two hbw hb7;have p0:=(hb7.cell (p:=⟨w.heap.size,0,none⟩) (by show w.heap.size<_;omega)).trans p0;have p1:=(hb7.cell (p:=⟨w.heap.size,1,none⟩) (by show w.heap.size<_;omega)).trans p1;have p2:=(hb7.cell (p:=⟨w.heap.size,2,none⟩) (by show w.heap.size<_;omega)).trans p2;have v0:=(hb7.cell (p:=⟨w.heap.size+1,0,none⟩) (by show w.heap.size+1<_;omega)).trans v0;have v1:=(hb7.cell (p:=⟨w.heap.size+1,1,none⟩) (by show w.heap.size+1<_;omega)).trans v1;have v2:=(hb7.cell (p:=⟨w.heap.size+1,2,none⟩) (by show w.heap.size+1<_;omega)).trans v2;have vz:∀o:Nat,w7.frozen? ⟨w.heap.size+1,o,none⟩=false:=fun o=>(hb7.frozen (p:=⟨w.heap.size+1,o,none⟩) (by show w.heap.size+1<_;omega)).trans (vz o);have zl:w.heap.size+1+1≤w7.heap.size:=Nat.le_trans zl hb7.size;have pz:∀o:Nat,w7.frozen? ⟨w.heap.size,o,none⟩=false:=(fun o=>(hb7.frozen (p:=⟨w.heap.size,o,none⟩) (by show w.heap.size<_;omega)).trans (pz o));have iv7:IV w7 _ (.slice a5 n5 c5) (insI xs id):=(by have h:=iv7;rw [memb_seats] at h;exact h)))
 obtain ⟨x7,hx7⟩:∃x,x=w7.setCell ⟨w.heap.size,2,none⟩ (.slice a5 n5 c5):=⟨_,rfl⟩
 rw [←hx7]
 have oX:Only w.heap.size w7 x7:=by rw [hx7];exact ((Only.refl _ w7).setCell (p:=⟨w.heap.size,2,none⟩) rfl _)
 have p0:x7.cell? ⟨w.heap.size,0,none⟩=some (.int .i64 wd):=by rw [hx7];exact (set_other4 (by decide)).trans p0
 have p1:x7.cell? ⟨w.heap.size,1,none⟩=some (.int .i64 fl):=by rw [hx7];exact (set_other4 (by decide)).trans p1
 have p2:x7.cell? ⟨w.heap.size,2,none⟩=some (.slice a5 n5 c5):=by rw [hx7];exact set_same4 _ p2
 have v0:=(oX.cell (p:=⟨w.heap.size+1,0,none⟩) (by show w.heap.size+1<_;omega) (by show w.heap.size+1≠_;omega)).trans v0
 have v1:=(oX.cell (p:=⟨w.heap.size+1,1,none⟩) (by show w.heap.size+1<_;omega) (by show w.heap.size+1≠_;omega)).trans v1
 have v2:=(oX.cell (p:=⟨w.heap.size+1,2,none⟩) (by show w.heap.size+1<_;omega) (by show w.heap.size+1≠_;omega)).trans v2
 have vz:∀o:Nat,x7.frozen? ⟨w.heap.size+1,o,none⟩=false:=fun o=>(oX.frozen (p:=⟨w.heap.size+1,o,none⟩) (by show w.heap.size+1<_;omega) (by show w.heap.size+1≠_;omega)).trans (vz o)
 have hbw:Below w.heap.size w x7:=hbw.trans (oX.below (Nat.le_refl _) (by omega))
 have iv8:=iv7.onlyO (OnlyO.of_only oX) (fun g hg e=>by have:=(iv7.own hg).1;injection e with e;omega)
 have zl:=Nat.le_trans zl oX.size
 clear hx7 oX
 go_wp2
 obtain ⟨y,ey,cs,fzy,sz,hbel,hon⟩:=over3 (.int .i64 wd) (.int .i64 fl) (.slice a5 n5 c5) (g:=w.heap.size+1) v0 v1 v2
 rw [←ey]
 refine bodyPost_ret (results_two rfl _ _ _ [.int .i64 wd,.int .i64 fl,.slice a5 n5 c5] rfl cs Tryz.underlying50 rfl (by kernel_rfl)) rfl ?_
 exact ⟨_,_,_,rfl,(iv8.onlyO (OnlyO.of_only hon) (fun g hg e=>by have:=(iv8.own hg).1;injection e with e;omega)).lower (by omega),hbw.trans (hbel _ (by omega))⟩
theorem implQuit_yes {wd fl id n:Int} {w:World} {a:Option Addr} (cap:Nat) {xs:List Int} (hp:plB wd fl xs=true) (hn:w10B n=true) (hh:hasI id xs=true) (smp:ISmp w.heap.size w a xs):Calls Tryz.prog 59 #[.agg #[.int .i64 wd,.int .i64 fl,.slice a xs.length cap],.int .i64 id,.int .i64 n] w (AnsPT w (delI xs id) wd (max 0 (fl-n)) true):=by
 obtain ⟨Z,zs,HZ,hz⟩:=seats_zero
 have hl:=(pl_num hp).2.2
 have hMT:=(pl_yes hp).2.2.2
 have hgd:Tryz.prog.eqGuardType Tryz.prog.depth 124=false:=by kernel_rfl
 have hfl:=(pl_num hp).2.1
 have hnn:=w10_num hn
 obtain ⟨f1,hf1⟩:∃f1:Int,max 0 (fl-n)=f1:=⟨_,rfl⟩
 rw [hf1]
 have HF1:Hid (max 0 (fl-n)=f1):=hf1
 clear hf1
 have heq:∀w:World,(Op.equalIn 10000 124 (.agg (flatB (seatsR (delI xs id))).toArray) (.agg (flatB (seatsR xs)).toArray)).run Tryz.prog w=.ok false w:=fun w=>by rw [eq_rows w _ _ (seatsR_len (by have:=delI_lt hh;omega)) (seatsR_len hl)];congr 1;exact decide_eq_false (fun e=>by have h:=congrArg List.length (seatsR_inj e);have:=delI_lt hh;omega)
 go_enter Tryz.func59,Tryz.ntmps59
 go_upto_region 4 with (first
  | (go_at_call 112;refine (implPlaceOk_is cap hp (smp.here (by go_grown))).mono ?_;rintro e w3 ⟨rfl,hbw3⟩;have hbw:Below w.heap.size w w3:=below_two (by go_grown) hbw3;have kc:=below_cells4 hbw3;have kf:=below_frozens4 hbw3;have zl:=hbw3.size;(try simp at zl);have p0:w3.cell? ⟨w.heap.size,0,none⟩=some (.int .i64 wd):=(kc _ _ (by simp;try omega)).trans (by go_simp);have p1:w3.cell? ⟨w.heap.size,1,none⟩=some (.int .i64 fl):=(kc _ _ (by simp;try omega)).trans (by go_simp);have p2:w3.cell? ⟨w.heap.size,2,none⟩=some (.slice a xs.length cap):=(kc _ _ (by simp;try omega)).trans (by go_simp);have v0:w3.cell? ⟨w.heap.size+1,0,none⟩=some (.int .i64 0):=(kc _ _ (by simp;try omega)).trans (by go_simp);have v1:w3.cell? ⟨w.heap.size+1,1,none⟩=some (.int .i64 0):=(kc _ _ (by simp;try omega)).trans (by go_simp);have v2:w3.cell? ⟨w.heap.size+1,2,none⟩=some (.slice none 0 0):=(kc _ _ (by simp;try omega)).trans (by go_simp);have vz:∀o:Nat,w3.frozen? ⟨w.heap.size+1,o,none⟩=false:=(fun o=>(kf _ _ (by simp;try omega)).trans (by go_simp));have pz:∀o:Nat,w3.frozen? ⟨w.heap.size,o,none⟩=false:=(fun o=>(kf _ _ (by simp;try omega)).trans (by go_simp));clear kc kf)
  | (go_at_call 118;refine (iWin_is hn _).mono ?_;rintro e wM ⟨rfl,hM⟩;have hM:=hM.symm;subst hM)
  | (go_at_call 113;refine (seatsOf_any cap hl (smp.here hbw)).mono ?_;rintro e w5 ⟨rfl,hb5⟩;have qw5:=zl;have hbw:Below w.heap.size w w5:=below_two hbw hb5;have p0:=(hb5.cell (p:=⟨w.heap.size,0,none⟩) (by show w.heap.size<_;omega)).trans p0;have p1:=(hb5.cell (p:=⟨w.heap.size,1,none⟩) (by show w.heap.size<_;omega)).trans p1;have p2:=(hb5.cell (p:=⟨w.heap.size,2,none⟩) (by show w.heap.size<_;omega)).trans p2;have v0:=(hb5.cell (p:=⟨w.heap.size+1,0,none⟩) (by show w.heap.size+1<_;omega)).trans v0;have v1:=(hb5.cell (p:=⟨w.heap.size+1,1,none⟩) (by show w.heap.size+1<_;omega)).trans v1;have v2:=(hb5.cell (p:=⟨w.heap.size+1,2,none⟩) (by show w.heap.size+1<_;omega)).trans v2;have vz:∀o:Nat,w5.frozen? ⟨w.heap.size+1,o,none⟩=false:=fun o=>(hb5.frozen (p:=⟨w.heap.size+1,o,none⟩) (by show w.heap.size+1<_;omega)).trans (vz o);have zl:w.heap.size+1+1≤w5.heap.size:=Nat.le_trans zl hb5.size;have pz:∀o:Nat,w5.frozen? ⟨w.heap.size,o,none⟩=false:=(fun o=>(hb5.frozen (p:=⟨w.heap.size,o,none⟩) (by show w.heap.size<_;omega)).trans (pz o)))
  | (refine wpList_store_row rfl 124 (.tmp 8) (.tmp 21) rfl _ _ rfl rfl _ _ (heap_alloc_new _ _) (by rw [size_row (seatsR_len hl)];exact info_seats) (by rw [HZ.out.1,size_row HZ.out.2.2,size_row (seatsR_len hl)]) (all_one _) ?_))
 obtain ⟨x5,hx5⟩:∃x,x=(w5.alloc (.cells Z 124)).setRow w5.heap.size (flatB (seatsR xs)).toArray:=⟨_,rfl⟩
 obtain ⟨g1,eg1⟩:∃b,b=w5.heap.size:=⟨_,rfl⟩
 rw [←hx5,←eg1]
 have kx5:Below w5.heap.size w5 x5:=by rw [hx5];exact below_setRow (new_below _ _) (Nat.le_refl _) _
 have R1:Hid (RowB x5 g1 (seatsR xs)):=by rw [hx5,eg1];exact ⟨seatsR_len hl,setRow_heap _ _ _ _ _ _ (heap_alloc_new _ _)⟩
 have yg1:w5.heap.size≤g1:=by omega
 have ug1:g1<x5.heap.size:=by have:=R1.out.z;exact this
 clear hx5 eg1
 have zqx5:=zl
 have hbw:Below w.heap.size w x5:=below_two hbw kx5
 have p0:=(kx5.cell (p:=⟨w.heap.size,0,none⟩) (by show w.heap.size<_;omega)).trans p0
 have p1:=(kx5.cell (p:=⟨w.heap.size,1,none⟩) (by show w.heap.size<_;omega)).trans p1
 have p2:=(kx5.cell (p:=⟨w.heap.size,2,none⟩) (by show w.heap.size<_;omega)).trans p2
 have v0:=(kx5.cell (p:=⟨w.heap.size+1,0,none⟩) (by show w.heap.size+1<_;omega)).trans v0
 have v1:=(kx5.cell (p:=⟨w.heap.size+1,1,none⟩) (by show w.heap.size+1<_;omega)).trans v1
 have v2:=(kx5.cell (p:=⟨w.heap.size+1,2,none⟩) (by show w.heap.size+1<_;omega)).trans v2
 have vz:∀o:Nat,x5.frozen? ⟨w.heap.size+1,o,none⟩=false:=fun o=>(kx5.frozen (p:=⟨w.heap.size+1,o,none⟩) (by show w.heap.size+1<_;omega)).trans (vz o)
 have zl:w.heap.size+1+1≤x5.heap.size:=Nat.le_trans zl kx5.size
 have pz:∀o:Nat,x5.frozen? ⟨w.heap.size,o,none⟩=false:=(fun o=>(kx5.frozen (p:=⟨w.heap.size,o,none⟩) (by show w.heap.size<_;omega)).trans (pz o))
 go_upto_region 5 with (first
  | (refine wpList_load_row rfl 124 (.tmp 8) rfl _ rfl _ _ _ _ R1.out.2 und_seats rfl (by rw [size_row R1.out.1];exact info_seats) ?_)
  | (go_at_call 119;refine (without_yes hMT hl hh).mono ?_;rintro e w6 ⟨rfl,hb6⟩;have qw6:=zl;have hbw:Below w.heap.size w w6:=below_two hbw hb6;have p0:=(hb6.cell (p:=⟨w.heap.size,0,none⟩) (by show w.heap.size<_;omega)).trans p0;have p1:=(hb6.cell (p:=⟨w.heap.size,1,none⟩) (by show w.heap.size<_;omega)).trans p1;have p2:=(hb6.cell (p:=⟨w.heap.size,2,none⟩) (by show w.heap.size<_;omega)).trans p2;have v0:=(hb6.cell (p:=⟨w.heap.size+1,0,none⟩) (by show w.heap.size+1<_;omega)).trans v0;have v1:=(hb6.cell (p:=⟨w.heap.size+1,1,none⟩) (by show w.heap.size+1<_;omega)).trans v1;have v2:=(hb6.cell (p:=⟨w.heap.size+1,2,none⟩) (by show w.heap.size+1<_;omega)).trans v2;have vz:∀o:Nat,w6.frozen? ⟨w.heap.size+1,o,none⟩=false:=fun o=>(hb6.frozen (p:=⟨w.heap.size+1,o,none⟩) (by show w.heap.size+1<_;omega)).trans (vz o);have zl:w.heap.size+1+1≤w6.heap.size:=Nat.le_trans zl hb6.size;have pz:∀o:Nat,w6.frozen? ⟨w.heap.size,o,none⟩=false:=(fun o=>(hb6.frozen (p:=⟨w.heap.size,o,none⟩) (by show w.heap.size<_;omega)).trans (pz o));have R1:Hid (RowB w6 g1 (seatsR xs)):=R1.out.next hb6)
  | (refine wpList_store_row rfl 124 (.tmp 9) (.tmp 24) rfl _ _ rfl rfl _ _ (heap_alloc_new _ _) (by rw [size_row (seatsR_len (by have:=delI_lt hh;omega))];exact info_seats) (by rw [HZ.out.1,size_row HZ.out.2.2,size_row (seatsR_len (by have:=delI_lt hh;omega))]) (all_one _) ?_))
 obtain ⟨x6,hx6⟩:∃x,x=(w6.alloc (.cells Z 124)).setRow w6.heap.size (flatB (seatsR (delI xs id))).toArray:=⟨_,rfl⟩
 obtain ⟨g2,eg2⟩:∃b,b=w6.heap.size:=⟨_,rfl⟩
 rw [←hx6,←eg2]
 have kx6:Below w6.heap.size w6 x6:=by rw [hx6];exact below_setRow (new_below _ _) (Nat.le_refl _) _
 have R2:Hid (RowB x6 g2 (seatsR (delI xs id))):=by rw [hx6,eg2];exact ⟨(seatsR_len (by have:=delI_lt hh;omega)),setRow_heap _ _ _ _ _ _ (heap_alloc_new _ _)⟩
 have yg2:w6.heap.size≤g2:=by omega
 have ug2:g2<x6.heap.size:=by have:=R2.out.z;exact this
 clear hx6 eg2
 have zqx6:=zl
 have hbw:Below w.heap.size w x6:=below_two hbw kx6
 have p0:=(kx6.cell (p:=⟨w.heap.size,0,none⟩) (by show w.heap.size<_;omega)).trans p0
 have p1:=(kx6.cell (p:=⟨w.heap.size,1,none⟩) (by show w.heap.size<_;omega)).trans p1
 have p2:=(kx6.cell (p:=⟨w.heap.size,2,none⟩) (by show w.heap.size<_;omega)).trans p2
 have v0:=(kx6.cell (p:=⟨w.heap.size+1,0,none⟩) (by show w.heap.size+1<_;omega)).trans v0
 have v1:=(kx6.cell (p:=⟨w.heap.size+1,1,none⟩) (by show w.heap.size+1<_;omega)).trans v1
 have v2:=(kx6.cell (p:=⟨w.heap.size+1,2,none⟩) (by show w.heap.size+1<_;omega)).trans v2
 have vz:∀o:Nat,x6.frozen? ⟨w.heap.size+1,o,none⟩=false:=fun o=>(kx6.frozen (p:=⟨w.heap.size+1,o,none⟩) (by show w.heap.size+1<_;omega)).trans (vz o)
 have zl:w.heap.size+1+1≤x6.heap.size:=Nat.le_trans zl kx6.size
 have pz:∀o:Nat,x6.frozen? ⟨w.heap.size,o,none⟩=false:=(fun o=>(kx6.frozen (p:=⟨w.heap.size,o,none⟩) (by show w.heap.size<_;omega)).trans (pz o))
 have R1:Hid (RowB x6 g1 (seatsR xs)):=R1.out.next kx6
 go_upto_region 8 with (first
  | (refine wpList_load_row rfl 124 (.tmp 9) rfl _ rfl _ _ _ _ R2.out.2 und_seats rfl (by rw [size_row R2.out.1];exact info_seats) ?_)
  | (refine wpList_load_row rfl 124 (.tmp 8) rfl _ rfl _ _ _ _ R1.out.2 und_seats rfl (by rw [size_row R1.out.1];exact info_seats) ?_)
  | (go_at_call 115;refine (members_any R2.out.1).mono ?_;rintro e w7 ⟨a5,n5,c5,rfl,iv7,hb7⟩;have qw7:=zl;have hbw:Below w.heap.size w w7:=below_two hbw hb7;have p0:=(hb7.cell (p:=⟨w.heap.size,0,none⟩) (by show w.heap.size<_;omega)).trans p0;have p1:=(hb7.cell (p:=⟨w.heap.size,1,none⟩) (by show w.heap.size<_;omega)).trans p1;have p2:=(hb7.cell (p:=⟨w.heap.size,2,none⟩) (by show w.heap.size<_;omega)).trans p2;have v0:=(hb7.cell (p:=⟨w.heap.size+1,0,none⟩) (by show w.heap.size+1<_;omega)).trans v0;have v1:=(hb7.cell (p:=⟨w.heap.size+1,1,none⟩) (by show w.heap.size+1<_;omega)).trans v1;have v2:=(hb7.cell (p:=⟨w.heap.size+1,2,none⟩) (by show w.heap.size+1<_;omega)).trans v2;have vz:∀o:Nat,w7.frozen? ⟨w.heap.size+1,o,none⟩=false:=fun o=>(hb7.frozen (p:=⟨w.heap.size+1,o,none⟩) (by show w.heap.size+1<_;omega)).trans (vz o);have zl:w.heap.size+1+1≤w7.heap.size:=Nat.le_trans zl hb7.size;have pz:∀o:Nat,w7.frozen? ⟨w.heap.size,o,none⟩=false:=(fun o=>(hb7.frozen (p:=⟨w.heap.size,o,none⟩) (by show w.heap.size<_;omega)).trans (pz o));have iv7:IV w7 _ (.slice a5 n5 c5) (delI xs id):=(by have h:=iv7;rw [memb_seats] at h;exact h)))
 obtain ⟨x7,hx7⟩:∃x,x=w7.setCell ⟨w.heap.size,2,none⟩ (.slice a5 n5 c5):=⟨_,rfl⟩
 rw [←hx7]
 have oX:Only w.heap.size w7 x7:=by rw [hx7];exact ((Only.refl _ w7).setCell (p:=⟨w.heap.size,2,none⟩) rfl _)
 have p0:x7.cell? ⟨w.heap.size,0,none⟩=some (.int .i64 wd):=by rw [hx7];exact (set_other4 (by decide)).trans p0
 have p1:x7.cell? ⟨w.heap.size,1,none⟩=some (.int .i64 fl):=by rw [hx7];exact (set_other4 (by decide)).trans p1
 have p2:x7.cell? ⟨w.heap.size,2,none⟩=some (.slice a5 n5 c5):=by rw [hx7];exact set_same4 _ p2
 have v0:=(oX.cell (p:=⟨w.heap.size+1,0,none⟩) (by show w.heap.size+1<_;omega) (by show w.heap.size+1≠_;omega)).trans v0
 have v1:=(oX.cell (p:=⟨w.heap.size+1,1,none⟩) (by show w.heap.size+1<_;omega) (by show w.heap.size+1≠_;omega)).trans v1
 have v2:=(oX.cell (p:=⟨w.heap.size+1,2,none⟩) (by show w.heap.size+1<_;omega) (by show w.heap.size+1≠_;omega)).trans v2
 have vz:∀o:Nat,x7.frozen? ⟨w.heap.size+1,o,none⟩=false:=fun o=>(oX.frozen (p:=⟨w.heap.size+1,o,none⟩) (by show w.heap.size+1<_;omega) (by show w.heap.size+1≠_;omega)).trans (vz o)
 have hbw:Below w.heap.size w x7:=hbw.trans (oX.below (Nat.le_refl _) (by omega))
 have iv8:=iv7.onlyO (OnlyO.of_only oX) (fun g hg e=>by have:=(iv7.own hg).1;injection e with e;omega)
 have zl:=Nat.le_trans zl oX.size
 clear hx7 oX
 go_wp2_with (first
  | (go_at_call 120;refine (less_any_ImplPlc2 _ a5 n5 c5 HF1.out ⟨hfl,hnn⟩).mono ?_;rintro e w8 ⟨rfl,hb8⟩;have z8:=zl;have iv8:=iv8.next hb8;have hbw:Below w.heap.size w w8:=below_two hbw hb8;have p0:=(hb8.cell (p:=⟨w.heap.size,0,none⟩) (by show w.heap.size<_;omega)).trans p0;have p1:=(hb8.cell (p:=⟨w.heap.size,1,none⟩) (by show w.heap.size<_;omega)).trans p1;have p2:=(hb8.cell (p:=⟨w.heap.size,2,none⟩) (by show w.heap.size<_;omega)).trans p2;have v0:=(hb8.cell (p:=⟨w.heap.size+1,0,none⟩) (by show w.heap.size+1<_;omega)).trans v0;have v1:=(hb8.cell (p:=⟨w.heap.size+1,1,none⟩) (by show w.heap.size+1<_;omega)).trans v1;have v2:=(hb8.cell (p:=⟨w.heap.size+1,2,none⟩) (by show w.heap.size+1<_;omega)).trans v2;have vz:∀o:Nat,w8.frozen? ⟨w.heap.size+1,o,none⟩=false:=fun o=>(hb8.frozen (p:=⟨w.heap.size+1,o,none⟩) (by show w.heap.size+1<_;omega)).trans (vz o);have zl:w.heap.size+1+1≤w8.heap.size:=Nat.le_trans zl hb8.size))
 obtain ⟨y,ey,cs,fzy,sz,hbel,hon⟩:=over3 (.int .i64 wd) (.int .i64 f1) (.slice a5 n5 c5) (g:=w.heap.size+1) v0 v1 v2
 rw [←ey]
 refine bodyPost_ret (results_two rfl _ _ _ [.int .i64 wd,.int .i64 f1,.slice a5 n5 c5] rfl cs Tryz.underlying50 rfl (by kernel_rfl)) rfl ?_
 exact ⟨_,_,_,rfl,(iv8.onlyO (OnlyO.of_only hon) (fun g hg e=>by have:=(iv8.own hg).1;injection e with e;omega)).lower (by omega),hbw.trans (hbel _ (by omega))⟩
theorem mem_pair {xs:List Int}:MemTo xs xs.length ↔ (∀x ∈ xs,0≤x∧x≤1000000)∧xs.Pairwise (·<·):=by
 constructor
 ·intro h
  refine ⟨fun x hx=>?_,List.pairwise_iff_getElem.2 (fun i j hi hj hij=>mem_less h hij hj)⟩
  obtain ⟨i,hi,e⟩:=List.mem_iff_getElem.1 hx
  rw [←e]
  exact (h i hi hi).1
 ·rintro ⟨h1,h2⟩ i hi _
  exact ⟨h1 _ (List.getElem_mem hi),fun j hj e=>List.pairwise_iff_getElem.1 h2 j i hj hi (by omega)⟩
theorem ins_parts {xs:List Int} {id:Int} (h:MemTo xs xs.length) (hh:hasI id xs=false):(∀x ∈ xs.takeWhile (fun y=>decide (y<id)),x<id)∧(∀x ∈ xs.dropWhile (fun y=>decide (y<id)),id<x):=by
 have hp:=(mem_pair.1 h).2
 have hn:id ∉ xs:=of_decide_eq_false hh
 refine ⟨fun x hx=>by have h:=List.all_eq_true.1 (List.all_takeWhile (p:=fun y=>decide (y<id)) (l:=xs)) x hx;simpa using h,?_⟩
 have key:∀(L:List Int),L.Pairwise (·<·)→id ∉ L→∀x ∈ L.dropWhile (fun y=>decide (y<id)),id<x:=by
  intro L
  induction L with
  | nil=>intro _ _ x hx;cases hx
  | cons y L ih =>
   intro hp hn x hx
   obtain ⟨h1,h2⟩:=List.pairwise_cons.1 hp
   by_cases hy:y<id
   ·rw [List.dropWhile_cons_of_pos (by simpa using hy)] at hx
    exact ih h2 (fun k=>hn (List.mem_cons_of_mem _ k)) x hx
   ·rw [List.dropWhile_cons_of_neg (by simpa using hy)] at hx
    have hne:y≠id:=fun e=>hn (by rw [e];exact List.mem_cons_self)
    rcases List.mem_cons.1 hx with rfl|hx
    ·omega
    ·have:=h1 x hx
     omega
 exact key xs hp hn
theorem ins_mem_MembMath {xs:List Int} {id:Int} (h:MemTo xs xs.length) (hh:hasI id xs=false) (hi:inQ 0 id 1000000=true):MemTo (insI xs id) (insI xs id).length:=by
 obtain ⟨h1,h2⟩:=ins_parts h hh
 obtain ⟨m1,m2⟩:=mem_pair.1 h
 have hx:xs=xs.takeWhile (fun y=>decide (y<id)) ++ xs.dropWhile (fun y=>decide (y<id)):=List.takeWhile_append_dropWhile.symm
 rw [hx] at m2
 obtain ⟨p1,p2,p3⟩:=List.pairwise_append.1 m2
 refine mem_pair.2 ⟨fun x hx=>?_,?_⟩
 ·unfold insI at hx
  rcases List.mem_append.1 hx with k|k
  ·exact m1 x ((List.takeWhile_sublist _).mem k)
  ·rcases List.mem_cons.1 k with rfl|k
   ·exact inQ_num hi
   ·exact m1 x ((List.dropWhile_sublist _).mem k)
 ·unfold insI
  refine List.pairwise_append.2 ⟨p1,List.pairwise_cons.2 ⟨h2,p2⟩,fun a ha b hb=>?_⟩
  rcases List.mem_cons.1 hb with rfl|hb
  ·exact h1 a ha
  ·exact p3 a ha b hb
theorem del_ins {xs:List Int} {id:Int} (h:MemTo xs xs.length) (hh:hasI id xs=false):delI (insI xs id) id=xs:=by
 obtain ⟨h1,h2⟩:=ins_parts h hh
 unfold delI insI
 rw [List.filter_append,List.filter_cons_of_neg (by simp),List.filter_eq_self.2 (fun x hx=>by have:=h1 x hx;simp;omega),List.filter_eq_self.2 (fun x hx=>by have:=h2 x hx;simp;omega),List.takeWhile_append_dropWhile]
theorem del_mem {xs:List Int} {id:Int} (h:MemTo xs xs.length):MemTo (delI xs id) (delI xs id).length:=by
 obtain ⟨m1,m2⟩:=mem_pair.1 h
 exact mem_pair.2 ⟨fun x hx=>m1 x (List.mem_filter.1 hx).1,m2.sublist List.filter_sublist⟩
theorem del_one {xs:List Int} {id:Int} (h:MemTo xs xs.length) (hh:hasI id xs=true):(delI xs id).length+1=xs.length:=by
 obtain ⟨k,hk,e⟩:=List.mem_iff_getElem.1 (of_decide_eq_true hh)
 rw [delI_at h hk e,List.length_append,List.length_take,List.length_drop]
 omega
theorem join_ok {wd fl id:Int} {xs:List Int} (hp:plB wd fl xs=true) (hn:inQ 0 id 1000000=true) (h5:xs.length<50) (hh:hasI id xs=false):plB wd fl (insI xs id)=true:=by
 obtain ⟨a,b,c,d⟩:=pl_yes hp
 exact pl_true ⟨a,b,by rw [insI_len];omega,ins_mem_MembMath d hh hn⟩
theorem quit_ok {wd fl id n:Int} {xs:List Int} (hp:plB wd fl xs=true) (hn:w10B n=true) (hh:hasI id xs=true):plB wd (max 0 (fl-n)) (delI xs id)=true:=by
 obtain ⟨a,b,c,d⟩:=pl_yes hp
 have hb:=w10_num b
 have hn:=w10_num hn
 have:=del_one d hh
 exact pl_true ⟨a,w10_of (by omega),by omega,del_mem d⟩
def conK (k:Int):Bool:=decide (k=1) || decide (k=2)
theorem conK_any (k:Int) (w:World):Calls Tryz.prog 80 #[.int .i64 k] w fun e w'=>e=.returned (.bool (conK k))∧w'=w:=by
 by_cases h1:k=1
 ·subst h1
  go_enter Tryz.func80,Tryz.ntmps80
  go_wp2
  go_ret
  exact ⟨rfl,rfl⟩
 by_cases h2:k=2
 ·subst h2
  go_enter Tryz.func80,Tryz.ntmps80
  go_wp2
  go_ret
  exact ⟨rfl,rfl⟩
 have HK:Hid (conK k=false):=by show conK k=false;unfold conK;rw [decide_eq_false h1,decide_eq_false h2];rfl
 have h1':(k == 1)=false:=by simp [h1]
 have h2':(k == 2)=false:=by simp [h2]
 clear h1 h2
 go_enter Tryz.func80,Tryz.ntmps80
 go_wp2
 go_ret
 exact ⟨retC HK.out.symm,rfl⟩
theorem conK_is {k:Int} {f:Bool} (h:conK k=f) (w:World):Calls Tryz.prog 80 #[.int .i64 k] w fun e w'=>e=.returned (.bool f)∧w'=w:=by subst h;exact conK_any k w
def hasL (T:List Q4) (i:Int):Bool:=inQ 0 i ((T.length:Int)-1) && leafB T i
theorem hasLeaf_any {w:World} (now nx:Int) {aT aO aP aL aK:Option Addr} {cT nO cO nP cP nL cL nK cK:Nat} {T:List Q4} (i:Int) (hT:Quad w.heap.size w aT T) (hl:T.length≤30) :
 Calls Tryz.prog 104 #[engV now aT T.length cT aO nO cO aP nP cP aL nL cL aK nK cK nx,.int .i64 i] w fun e w'=>e=.returned (.bool (hasL T i))∧Below w.heap.size w w':=by
 obtain ⟨v,hv,L0,nb⟩:=new1 w 31 [.int .i64 now,.slice aT T.length cT,.slice aO nO cO,.slice aP nP cP,.slice aL nL cL,.slice aK nK cK,.int .i64 nx]
 have hli:(T.length:Int)≤30:=by omega
 have r1:v.cell? ⟨w.heap.size,1,none⟩=some (.slice aT T.length cT):=L0.cell 1 _ rfl
 cases h1:inQ 0 i ((T.length:Int)-1)
 ·have HC:Hid (hasL T i=false):=by show hasL T i=false;unfold hasL;rw [h1];rfl
  go_enter Tryz.func104,Tryz.ntmps104
  go_upto_region 1 with (fail)
  rw [←hv]
  clear hv
  go_wp2_with (first|(go_at_call 62;refine (iQ_is h1 _).mono ?_;rintro e w3 ⟨rfl,e3⟩;replace e3:=e3.symm;subst e3))
  go_ret
  exact ⟨retC HC.out.symm,nb⟩
 ·cases h2:leafB T i
  ·have HC:Hid (hasL T i=false):=by show hasL T i=false;unfold hasL;rw [h1,h2];rfl
   go_enter Tryz.func104,Tryz.ntmps104
   go_upto_region 1 with (fail)
   rw [←hv]
   clear hv
   go_wp2_with (first|(go_at_call 62;refine (iQ_is h1 _).mono ?_;rintro e w3 ⟨rfl,e3⟩;replace e3:=e3.symm;subst e3)|(go_at_call 147;refine (iLeaf_is cT h2 (hT.here nb) hl).mono ?_;rintro e w3 ⟨rfl,hb3⟩))
   go_ret
   exact ⟨retC HC.out.symm,below_two nb hb3⟩
  ·have HC:Hid (hasL T i=true):=by show hasL T i=true;unfold hasL;rw [h1,h2];rfl
   go_enter Tryz.func104,Tryz.ntmps104
   go_upto_region 1 with (fail)
   rw [←hv]
   clear hv
   go_wp2_with (first|(go_at_call 62;refine (iQ_is h1 _).mono ?_;rintro e w3 ⟨rfl,e3⟩;replace e3:=e3.symm;subst e3)|(go_at_call 147;refine (iLeaf_is cT h2 (hT.here nb) hl).mono ?_;rintro e w3 ⟨rfl,hb3⟩))
   go_ret
   exact ⟨retC HC.out.symm,below_two nb hb3⟩
theorem hasLeaf_is {w:World} {now nx:Int} {aT aO aP aL aK:Option Addr} {cT nO cO nP cP nL cL nK cK:Nat} {T:List Q4} {i:Int} {f:Bool} (hf:hasL T i=f) (hT:Quad w.heap.size w aT T) (hl:T.length≤30) :
 Calls Tryz.prog 104 #[engV now aT T.length cT aO nO cO aP nP cP aL nL cL aK nK cK nx,.int .i64 i] w fun e w'=>e=.returned (.bool f)∧Below w.heap.size w w':=by subst hf;exact hasLeaf_any now nx i hT hl
theorem hasPlace_is {w:World} {now nx:Int} {aT aO aP aL aK:Option Addr} {cT nO cO nP cP nL cL nK cK:Nat} {T:List Q4} {i:Int} {f:Bool} (hf:inQ 0 i ((nL:Int)-1)=f) (hl:nL≤1048576) :
 Calls Tryz.prog 105 #[engV now aT T.length cT aO nO cO aP nP cP aL nL cL aK nK cK nx,.int .i64 i] w fun e w'=>e=.returned (.bool f)∧Below w.heap.size w w':=by
 obtain ⟨v,hv,L0,nb⟩:=new1 w 31 [.int .i64 now,.slice aT T.length cT,.slice aO nO cO,.slice aP nP cP,.slice aL nL cL,.slice aK nK cK,.int .i64 nx]
 have hli:(nL:Int)≤1048576:=by omega
 have r4:v.cell? ⟨w.heap.size,4,none⟩=some (.slice aL nL cL):=L0.cell 4 _ rfl
 go_enter Tryz.func105,Tryz.ntmps105
 go_upto_region 1 with (fail)
 rw [←hv]
 clear hv
 go_wp2_with (first|(go_at_call 62;refine (iQ_is hf _).mono ?_;rintro e w3 ⟨rfl,e3⟩;replace e3:=e3.symm;subst e3))
 go_ret
 exact ⟨rfl,nb⟩
theorem allSg_is (xs:List Int):allSg xs=xs.all segB:=rfl
theorem areSz_is {w:World} {a:Option Addr} (cap:Nat) {xs:List Int} {f:Bool} (hf:xs.all segB=f) (h:ISmp w.heap.size w a xs) (hm:xs.length≤4611686018427387904) :
 Calls Tryz.prog 128 #[.slice a xs.length cap] w fun e w'=>e=.returned (.bool f)∧Below w.heap.size w w':=by rw [←hf,←allSg_is];exact areSizes_any cap h hm
def mayB (T:List Q4) (nL:Nat) (c:Kn):Bool:=((((hasL T c.lf && inQ 0 c.pl ((nL:Int)-1)) && ccB c.k c.wn c.th c.fl c.ac c.la c.og c.st c.fr) && conK c.k) && decide (c.xs.length≤100)) && c.xs.all segB
theorem mayE_any {w:World} (now nx:Int) {sa:Option Addr} {sc:Nat} {aT aO aP aL aK:Option Addr} {cT nO cO nP cP nL cL nK cK:Nat} {T:List Q4} (c:Kn) (hT:Quad w.heap.size w aT T) (hl:T.length≤30) (hL:nL≤1048576) (hs:ISmp w.heap.size w sa c.xs) (hm:c.xs.length≤maxLen) :
 Calls Tryz.prog 67 #[engV now aT T.length cT aO nO cO aP nP cP aL nL cL aK nK cK nx,.agg #[.int .i64 c.id,.int .i64 c.lf,.int .i64 c.pl,.int .i64 c.k,.int .i64 c.wn,.int .i64 c.th,.int .i64 c.fl,.int .i64 c.ac,.int .i64 c.la,.int .i64 c.og,.int .i64 c.st,.int .i64 c.fr,.bool c.sl,.slice sa c.xs.length sc]] w fun e w'=>e=.returned (.bool (mayB T nL c))∧Below w.heap.size w w':=by
 have hmi:(c.xs.length:Int)≤9223372036854775807:=by unfold maxLen at hm;omega
 obtain ⟨v,hv⟩:∃v,v=(w.alloc (.cells #[.int .i64 now,.slice aT T.length cT,.slice aO nO cO,.slice aP nP cP,.slice aL nL cL,.slice aK nK cK,.int .i64 nx] 31)).alloc (.cells #[.int .i64 c.id,.int .i64 c.lf,.int .i64 c.pl,.int .i64 c.k,.int .i64 c.wn,.int .i64 c.th,.int .i64 c.fl,.int .i64 c.ac,.int .i64 c.la,.int .i64 c.og,.int .i64 c.st,.int .i64 c.fr,.bool c.sl,.slice sa c.xs.length sc] 47):=⟨_,rfl⟩
 have nb:Below w.heap.size w v:=by rw [hv];go_grown
 have L0:Lay v w.heap.size [.int .i64 now,.slice aT T.length cT,.slice aO nO cO,.slice aP nP cP,.slice aL nL cL,.slice aK nK cK,.int .i64 nx]:=by rw [hv];exact (lay_new _ _ rfl).alloc _ _
 have L1:Lay v (w.heap.size+1) [.int .i64 c.id,.int .i64 c.lf,.int .i64 c.pl,.int .i64 c.k,.int .i64 c.wn,.int .i64 c.th,.int .i64 c.fl,.int .i64 c.ac,.int .i64 c.la,.int .i64 c.og,.int .i64 c.st,.int .i64 c.fr,.bool c.sl,.slice sa c.xs.length sc]:=by rw [hv];exact lay_new _ _ (by simp)
 obtain ⟨ve0,ve1,ve2,ve3,ve4,ve5,ve6⟩:=Lay.c7 (b:=w.heap.size) L0
 obtain ⟨vc0,vc1,vc2,vc3,vc4,vc5,vc6,vc7,vc8,vc9,vc10,vc11,vc12,vc13⟩:=Lay.c14 (b:=w.heap.size+1) L1
 cases h1:hasL T c.lf
 ·have HC:Hid (mayB T nL c=false):=(show mayB T nL c=_ by unfold mayB;simp only [h1,Bool.true_and,Bool.false_and,Bool.and_false])
  go_enter Tryz.func67,Tryz.ntmps67
  go_upto_region 1 with (fail)
  rw [←hv]
  clear hv
  go_wp2_with (first|(go_at_call 104;refine (hasLeaf_is h1 (hT.here nb) hl).mono ?_;rintro e u1 ⟨rfl,hb1⟩;have b1:=below_two nb hb1;have M0:=L0.next hb1;have M1:=L1.next hb1;clear ve0 ve1 ve2 ve3 ve4 ve5 ve6 vc0 vc1 vc2 vc3 vc4 vc5 vc6 vc7 vc8 vc9 vc10 vc11 vc12 vc13;obtain ⟨u1e0,u1e1,u1e2,u1e3,u1e4,u1e5,u1e6⟩:=Lay.c7 (b:=w.heap.size) M0;obtain ⟨u1c0,u1c1,u1c2,u1c3,u1c4,u1c5,u1c6,u1c7,u1c8,u1c9,u1c10,u1c11,u1c12,u1c13⟩:=Lay.c14 (b:=w.heap.size+1) M1))
  go_ret
  exact ⟨retC HC.out.symm,b1⟩
 cases h2:inQ 0 c.pl ((nL:Int)-1)
 ·have HC:Hid (mayB T nL c=false):=(show mayB T nL c=_ by unfold mayB;simp only [h1,h2,Bool.true_and,Bool.false_and,Bool.and_false])
  go_enter Tryz.func67,Tryz.ntmps67
  go_upto_region 1 with (fail)
  rw [←hv]
  clear hv
  go_wp2_with (first|(go_at_call 105;refine (hasPlace_is h2 hL).mono ?_;rintro e u2 ⟨rfl,hb2⟩;have b2:=below_two b1 hb2;have N0:=M0.next hb2;have N1:=M1.next hb2;clear u1e0 u1e1 u1e2 u1e3 u1e4 u1e5 u1e6 u1c0 u1c1 u1c2 u1c3 u1c4 u1c5 u1c6 u1c7 u1c8 u1c9 u1c10 u1c11 u1c12 u1c13;obtain ⟨u2e0,u2e1,u2e2,u2e3,u2e4,u2e5,u2e6⟩:=Lay.c7 (b:=w.heap.size) N0;obtain ⟨u2c0,u2c1,u2c2,u2c3,u2c4,u2c5,u2c6,u2c7,u2c8,u2c9,u2c10,u2c11,u2c12,u2c13⟩:=Lay.c14 (b:=w.heap.size+1) N1)|(go_at_call 104;refine (hasLeaf_is h1 (hT.here nb) hl).mono ?_;rintro e u1 ⟨rfl,hb1⟩;have b1:=below_two nb hb1;have M0:=L0.next hb1;have M1:=L1.next hb1;clear ve0 ve1 ve2 ve3 ve4 ve5 ve6 vc0 vc1 vc2 vc3 vc4 vc5 vc6 vc7 vc8 vc9 vc10 vc11 vc12 vc13;obtain ⟨u1e0,u1e1,u1e2,u1e3,u1e4,u1e5,u1e6⟩:=Lay.c7 (b:=w.heap.size) M0;obtain ⟨u1c0,u1c1,u1c2,u1c3,u1c4,u1c5,u1c6,u1c7,u1c8,u1c9,u1c10,u1c11,u1c12,u1c13⟩:=Lay.c14 (b:=w.heap.size+1) M1))
  go_ret
  exact ⟨retC HC.out.symm,b2⟩
 cases h3:ccB c.k c.wn c.th c.fl c.ac c.la c.og c.st c.fr
 ·have HC:Hid (mayB T nL c=false):=(show mayB T nL c=_ by unfold mayB;simp only [h1,h2,h3,Bool.true_and,Bool.false_and,Bool.and_false])
  go_enter Tryz.func67,Tryz.ntmps67
  go_upto_region 1 with (fail)
  rw [←hv]
  clear hv
  go_wp2_with (first|(go_at_call 127;refine (implCcOk_is h3 _ _).mono ?_;rintro e u3 ⟨rfl,e3⟩;have hb3:Below u2.heap.size u2 u3:=(by rw [e3];exact new_below _ _);clear e3;have b3:=below_two b2 hb3;have O0:=N0.next hb3;have O1:=N1.next hb3;clear u2e0 u2e1 u2e2 u2e3 u2e4 u2e5 u2e6 u2c0 u2c1 u2c2 u2c3 u2c4 u2c5 u2c6 u2c7 u2c8 u2c9 u2c10 u2c11 u2c12 u2c13;obtain ⟨u3e0,u3e1,u3e2,u3e3,u3e4,u3e5,u3e6⟩:=Lay.c7 (b:=w.heap.size) O0;obtain ⟨u3c0,u3c1,u3c2,u3c3,u3c4,u3c5,u3c6,u3c7,u3c8,u3c9,u3c10,u3c11,u3c12,u3c13⟩:=Lay.c14 (b:=w.heap.size+1) O1)|(go_at_call 105;refine (hasPlace_is h2 hL).mono ?_;rintro e u2 ⟨rfl,hb2⟩;have b2:=below_two b1 hb2;have N0:=M0.next hb2;have N1:=M1.next hb2;clear u1e0 u1e1 u1e2 u1e3 u1e4 u1e5 u1e6 u1c0 u1c1 u1c2 u1c3 u1c4 u1c5 u1c6 u1c7 u1c8 u1c9 u1c10 u1c11 u1c12 u1c13;obtain ⟨u2e0,u2e1,u2e2,u2e3,u2e4,u2e5,u2e6⟩:=Lay.c7 (b:=w.heap.size) N0;obtain ⟨u2c0,u2c1,u2c2,u2c3,u2c4,u2c5,u2c6,u2c7,u2c8,u2c9,u2c10,u2c11,u2c12,u2c13⟩:=Lay.c14 (b:=w.heap.size+1) N1)|(go_at_call 104;refine (hasLeaf_is h1 (hT.here nb) hl).mono ?_;rintro e u1 ⟨rfl,hb1⟩;have b1:=below_two nb hb1;have M0:=L0.next hb1;have M1:=L1.next hb1;clear ve0 ve1 ve2 ve3 ve4 ve5 ve6 vc0 vc1 vc2 vc3 vc4 vc5 vc6 vc7 vc8 vc9 vc10 vc11 vc12 vc13;obtain ⟨u1e0,u1e1,u1e2,u1e3,u1e4,u1e5,u1e6⟩:=Lay.c7 (b:=w.heap.size) M0;obtain ⟨u1c0,u1c1,u1c2,u1c3,u1c4,u1c5,u1c6,u1c7,u1c8,u1c9,u1c10,u1c11,u1c12,u1c13⟩:=Lay.c14 (b:=w.heap.size+1) M1))
  go_ret
  exact ⟨retC HC.out.symm,b3⟩
 cases h4:conK c.k
 ·have HC:Hid (mayB T nL c=false):=(show mayB T nL c=_ by unfold mayB;simp only [h1,h2,h3,h4,Bool.true_and,Bool.false_and,Bool.and_false])
  go_enter Tryz.func67,Tryz.ntmps67
  go_upto_region 1 with (fail)
  rw [←hv]
  clear hv
  go_wp2_with (first|(go_at_call 80;refine (conK_is h4 _).mono ?_;rintro e w4 ⟨rfl,e4⟩;replace e4:=e4.symm;subst e4)|(go_at_call 127;refine (implCcOk_is h3 _ _).mono ?_;rintro e u3 ⟨rfl,e3⟩;have hb3:Below u2.heap.size u2 u3:=(by rw [e3];exact new_below _ _);clear e3;have b3:=below_two b2 hb3;have O0:=N0.next hb3;have O1:=N1.next hb3;clear u2e0 u2e1 u2e2 u2e3 u2e4 u2e5 u2e6 u2c0 u2c1 u2c2 u2c3 u2c4 u2c5 u2c6 u2c7 u2c8 u2c9 u2c10 u2c11 u2c12 u2c13;obtain ⟨u3e0,u3e1,u3e2,u3e3,u3e4,u3e5,u3e6⟩:=Lay.c7 (b:=w.heap.size) O0;obtain ⟨u3c0,u3c1,u3c2,u3c3,u3c4,u3c5,u3c6,u3c7,u3c8,u3c9,u3c10,u3c11,u3c12,u3c13⟩:=Lay.c14 (b:=w.heap.size+1) O1)|(go_at_call 105;refine (hasPlace_is h2 hL).mono ?_;rintro e u2 ⟨rfl,hb2⟩;have b2:=below_two b1 hb2;have N0:=M0.next hb2;have N1:=M1.next hb2;clear u1e0 u1e1 u1e2 u1e3 u1e4 u1e5 u1e6 u1c0 u1c1 u1c2 u1c3 u1c4 u1c5 u1c6 u1c7 u1c8 u1c9 u1c10 u1c11 u1c12 u1c13;obtain ⟨u2e0,u2e1,u2e2,u2e3,u2e4,u2e5,u2e6⟩:=Lay.c7 (b:=w.heap.size) N0;obtain ⟨u2c0,u2c1,u2c2,u2c3,u2c4,u2c5,u2c6,u2c7,u2c8,u2c9,u2c10,u2c11,u2c12,u2c13⟩:=Lay.c14 (b:=w.heap.size+1) N1)|(go_at_call 104;refine (hasLeaf_is h1 (hT.here nb) hl).mono ?_;rintro e u1 ⟨rfl,hb1⟩;have b1:=below_two nb hb1;have M0:=L0.next hb1;have M1:=L1.next hb1;clear ve0 ve1 ve2 ve3 ve4 ve5 ve6 vc0 vc1 vc2 vc3 vc4 vc5 vc6 vc7 vc8 vc9 vc10 vc11 vc12 vc13;obtain ⟨u1e0,u1e1,u1e2,u1e3,u1e4,u1e5,u1e6⟩:=Lay.c7 (b:=w.heap.size) M0;obtain ⟨u1c0,u1c1,u1c2,u1c3,u1c4,u1c5,u1c6,u1c7,u1c8,u1c9,u1c10,u1c11,u1c12,u1c13⟩:=Lay.c14 (b:=w.heap.size+1) M1))
  go_ret
  exact ⟨retC HC.out.symm,b3⟩
 by_cases h5:(c.xs.length:Int)≤100
 rotate_left
 ·have HC:Hid (mayB T nL c=false):=(show mayB T nL c=_ by unfold mayB;simp only [h1,h2,h3,h4,decide_eq_false (show ¬c.xs.length≤100 by omega),Bool.true_and,Bool.false_and,Bool.and_false])
  go_enter Tryz.func67,Tryz.ntmps67
  go_upto_region 1 with (fail)
  rw [←hv]
  clear hv
  go_wp2_with (first|(go_at_call 80;refine (conK_is h4 _).mono ?_;rintro e w4 ⟨rfl,e4⟩;replace e4:=e4.symm;subst e4)|(go_at_call 127;refine (implCcOk_is h3 _ _).mono ?_;rintro e u3 ⟨rfl,e3⟩;have hb3:Below u2.heap.size u2 u3:=(by rw [e3];exact new_below _ _);clear e3;have b3:=below_two b2 hb3;have O0:=N0.next hb3;have O1:=N1.next hb3;clear u2e0 u2e1 u2e2 u2e3 u2e4 u2e5 u2e6 u2c0 u2c1 u2c2 u2c3 u2c4 u2c5 u2c6 u2c7 u2c8 u2c9 u2c10 u2c11 u2c12 u2c13;obtain ⟨u3e0,u3e1,u3e2,u3e3,u3e4,u3e5,u3e6⟩:=Lay.c7 (b:=w.heap.size) O0;obtain ⟨u3c0,u3c1,u3c2,u3c3,u3c4,u3c5,u3c6,u3c7,u3c8,u3c9,u3c10,u3c11,u3c12,u3c13⟩:=Lay.c14 (b:=w.heap.size+1) O1)|(go_at_call 105;refine (hasPlace_is h2 hL).mono ?_;rintro e u2 ⟨rfl,hb2⟩;have b2:=below_two b1 hb2;have N0:=M0.next hb2;have N1:=M1.next hb2;clear u1e0 u1e1 u1e2 u1e3 u1e4 u1e5 u1e6 u1c0 u1c1 u1c2 u1c3 u1c4 u1c5 u1c6 u1c7 u1c8 u1c9 u1c10 u1c11 u1c12 u1c13;obtain ⟨u2e0,u2e1,u2e2,u2e3,u2e4,u2e5,u2e6⟩:=Lay.c7 (b:=w.heap.size) N0;obtain ⟨u2c0,u2c1,u2c2,u2c3,u2c4,u2c5,u2c6,u2c7,u2c8,u2c9,u2c10,u2c11,u2c12,u2c13⟩:=Lay.c14 (b:=w.heap.size+1) N1)|(go_at_call 104;refine (hasLeaf_is h1 (hT.here nb) hl).mono ?_;rintro e u1 ⟨rfl,hb1⟩;have b1:=below_two nb hb1;have M0:=L0.next hb1;have M1:=L1.next hb1;clear ve0 ve1 ve2 ve3 ve4 ve5 ve6 vc0 vc1 vc2 vc3 vc4 vc5 vc6 vc7 vc8 vc9 vc10 vc11 vc12 vc13;obtain ⟨u1e0,u1e1,u1e2,u1e3,u1e4,u1e5,u1e6⟩:=Lay.c7 (b:=w.heap.size) M0;obtain ⟨u1c0,u1c1,u1c2,u1c3,u1c4,u1c5,u1c6,u1c7,u1c8,u1c9,u1c10,u1c11,u1c12,u1c13⟩:=Lay.c14 (b:=w.heap.size+1) M1))
  go_ret
  exact ⟨retC HC.out.symm,b3⟩
 have hm':c.xs.length≤4611686018427387904:=by omega
 cases h6:c.xs.all segB
 ·have HC:Hid (mayB T nL c=false):=(show mayB T nL c=_ by unfold mayB;simp only [h1,h2,h3,h4,decide_eq_true (show c.xs.length≤100 by omega),h6,Bool.true_and,Bool.false_and,Bool.and_false])
  go_enter Tryz.func67,Tryz.ntmps67
  go_upto_region 1 with (fail)
  rw [←hv]
  clear hv
  go_wp2_with (first|(go_at_call 128;refine (areSz_is sc h6 (hs.here b3) hm').mono ?_;rintro e u6 ⟨rfl,hb6⟩;have b6:=below_two b3 hb6)|(go_at_call 80;refine (conK_is h4 _).mono ?_;rintro e w4 ⟨rfl,e4⟩;replace e4:=e4.symm;subst e4)|(go_at_call 127;refine (implCcOk_is h3 _ _).mono ?_;rintro e u3 ⟨rfl,e3⟩;have hb3:Below u2.heap.size u2 u3:=(by rw [e3];exact new_below _ _);clear e3;have b3:=below_two b2 hb3;have O0:=N0.next hb3;have O1:=N1.next hb3;clear u2e0 u2e1 u2e2 u2e3 u2e4 u2e5 u2e6 u2c0 u2c1 u2c2 u2c3 u2c4 u2c5 u2c6 u2c7 u2c8 u2c9 u2c10 u2c11 u2c12 u2c13;obtain ⟨u3e0,u3e1,u3e2,u3e3,u3e4,u3e5,u3e6⟩:=Lay.c7 (b:=w.heap.size) O0;obtain ⟨u3c0,u3c1,u3c2,u3c3,u3c4,u3c5,u3c6,u3c7,u3c8,u3c9,u3c10,u3c11,u3c12,u3c13⟩:=Lay.c14 (b:=w.heap.size+1) O1)|(go_at_call 105;refine (hasPlace_is h2 hL).mono ?_;rintro e u2 ⟨rfl,hb2⟩;have b2:=below_two b1 hb2;have N0:=M0.next hb2;have N1:=M1.next hb2;clear u1e0 u1e1 u1e2 u1e3 u1e4 u1e5 u1e6 u1c0 u1c1 u1c2 u1c3 u1c4 u1c5 u1c6 u1c7 u1c8 u1c9 u1c10 u1c11 u1c12 u1c13;obtain ⟨u2e0,u2e1,u2e2,u2e3,u2e4,u2e5,u2e6⟩:=Lay.c7 (b:=w.heap.size) N0;obtain ⟨u2c0,u2c1,u2c2,u2c3,u2c4,u2c5,u2c6,u2c7,u2c8,u2c9,u2c10,u2c11,u2c12,u2c13⟩:=Lay.c14 (b:=w.heap.size+1) N1)|(go_at_call 104;refine (hasLeaf_is h1 (hT.here nb) hl).mono ?_;rintro e u1 ⟨rfl,hb1⟩;have b1:=below_two nb hb1;have M0:=L0.next hb1;have M1:=L1.next hb1;clear ve0 ve1 ve2 ve3 ve4 ve5 ve6 vc0 vc1 vc2 vc3 vc4 vc5 vc6 vc7 vc8 vc9 vc10 vc11 vc12 vc13;obtain ⟨u1e0,u1e1,u1e2,u1e3,u1e4,u1e5,u1e6⟩:=Lay.c7 (b:=w.heap.size) M0;obtain ⟨u1c0,u1c1,u1c2,u1c3,u1c4,u1c5,u1c6,u1c7,u1c8,u1c9,u1c10,u1c11,u1c12,u1c13⟩:=Lay.c14 (b:=w.heap.size+1) M1))
  go_ret
  exact ⟨retC HC.out.symm,b6⟩
 ·have HC:Hid (mayB T nL c=true):=(show mayB T nL c=_ by unfold mayB;simp only [h1,h2,h3,h4,decide_eq_true (show c.xs.length≤100 by omega),h6,Bool.true_and,Bool.false_and,Bool.and_false])
  go_enter Tryz.func67,Tryz.ntmps67
  go_upto_region 1 with (fail)
  rw [←hv]
  clear hv
  go_wp2_with (first|(go_at_call 128;refine (areSz_is sc h6 (hs.here b3) hm').mono ?_;rintro e u6 ⟨rfl,hb6⟩;have b6:=below_two b3 hb6)|(go_at_call 80;refine (conK_is h4 _).mono ?_;rintro e w4 ⟨rfl,e4⟩;replace e4:=e4.symm;subst e4)|(go_at_call 127;refine (implCcOk_is h3 _ _).mono ?_;rintro e u3 ⟨rfl,e3⟩;have hb3:Below u2.heap.size u2 u3:=(by rw [e3];exact new_below _ _);clear e3;have b3:=below_two b2 hb3;have O0:=N0.next hb3;have O1:=N1.next hb3;clear u2e0 u2e1 u2e2 u2e3 u2e4 u2e5 u2e6 u2c0 u2c1 u2c2 u2c3 u2c4 u2c5 u2c6 u2c7 u2c8 u2c9 u2c10 u2c11 u2c12 u2c13;obtain ⟨u3e0,u3e1,u3e2,u3e3,u3e4,u3e5,u3e6⟩:=Lay.c7 (b:=w.heap.size) O0;obtain ⟨u3c0,u3c1,u3c2,u3c3,u3c4,u3c5,u3c6,u3c7,u3c8,u3c9,u3c10,u3c11,u3c12,u3c13⟩:=Lay.c14 (b:=w.heap.size+1) O1)|(go_at_call 105;refine (hasPlace_is h2 hL).mono ?_;rintro e u2 ⟨rfl,hb2⟩;have b2:=below_two b1 hb2;have N0:=M0.next hb2;have N1:=M1.next hb2;clear u1e0 u1e1 u1e2 u1e3 u1e4 u1e5 u1e6 u1c0 u1c1 u1c2 u1c3 u1c4 u1c5 u1c6 u1c7 u1c8 u1c9 u1c10 u1c11 u1c12 u1c13;obtain ⟨u2e0,u2e1,u2e2,u2e3,u2e4,u2e5,u2e6⟩:=Lay.c7 (b:=w.heap.size) N0;obtain ⟨u2c0,u2c1,u2c2,u2c3,u2c4,u2c5,u2c6,u2c7,u2c8,u2c9,u2c10,u2c11,u2c12,u2c13⟩:=Lay.c14 (b:=w.heap.size+1) N1)|(go_at_call 104;refine (hasLeaf_is h1 (hT.here nb) hl).mono ?_;rintro e u1 ⟨rfl,hb1⟩;have b1:=below_two nb hb1;have M0:=L0.next hb1;have M1:=L1.next hb1;clear ve0 ve1 ve2 ve3 ve4 ve5 ve6 vc0 vc1 vc2 vc3 vc4 vc5 vc6 vc7 vc8 vc9 vc10 vc11 vc12 vc13;obtain ⟨u1e0,u1e1,u1e2,u1e3,u1e4,u1e5,u1e6⟩:=Lay.c7 (b:=w.heap.size) M0;obtain ⟨u1c0,u1c1,u1c2,u1c3,u1c4,u1c5,u1c6,u1c7,u1c8,u1c9,u1c10,u1c11,u1c12,u1c13⟩:=Lay.c14 (b:=w.heap.size+1) M1))
  go_ret
  exact ⟨retC HC.out.symm,b6⟩
theorem notMay_any {w:World} (now nx:Int) {eb:Nat} {sa:Option Addr} {sc:Nat} {aT aO aP aL aK:Option Addr} {cT nO cO nP cP nL cL nK cK:Nat} {T:List Q4} (c:Kn) (hE:Lay w eb [.int .i64 now,.slice aT T.length cT,.slice aO nO cO,.slice aP nP cP,.slice aL nL cL,.slice aK nK cK,.int .i64 nx]) (hT:Quad w.heap.size w aT T) (hl:T.length≤30) (hL:nL≤1048576) (hs:ISmp w.heap.size w sa c.xs) (hm:c.xs.length≤maxLen) :
 Calls Tryz.prog 66 #[.agg #[.int .i64 c.id,.int .i64 c.lf,.int .i64 c.pl,.int .i64 c.k,.int .i64 c.wn,.int .i64 c.th,.int .i64 c.fl,.int .i64 c.ac,.int .i64 c.la,.int .i64 c.og,.int .i64 c.st,.int .i64 c.fr,.bool c.sl,.slice sa c.xs.length sc],.pointer (some ⟨eb,0,none⟩)] w fun e w'=>e=.returned (.bool (!mayB T nL c))∧Below w.heap.size w w':=by
 obtain ⟨v,hv,L1,nb⟩:=new1 w 47 [.int .i64 c.id,.int .i64 c.lf,.int .i64 c.pl,.int .i64 c.k,.int .i64 c.wn,.int .i64 c.th,.int .i64 c.fl,.int .i64 c.ac,.int .i64 c.la,.int .i64 c.og,.int .i64 c.st,.int .i64 c.fr,.bool c.sl,.slice sa c.xs.length sc]
 have L0:=hE.next nb
 obtain ⟨ve0,ve1,ve2,ve3,ve4,ve5,ve6⟩:=Lay.c7 (b:=eb) L0
 obtain ⟨vc0,vc1,vc2,vc3,vc4,vc5,vc6,vc7,vc8,vc9,vc10,vc11,vc12,vc13⟩:=Lay.c14 (b:=w.heap.size) L1
 go_enter Tryz.func66,Tryz.ntmps66
 go_upto_region 1 with (fail)
 rw [←hv]
 clear hv
 go_wp2_with (first|(go_at_call 67;refine (mayE_any now nx c (hT.here nb) hl hL (hs.here nb) hm).mono ?_;rintro e w3 ⟨rfl,hb3⟩))
 go_ret
 exact ⟨rfl,below_two nb hb3⟩
def IdxMPost (T:List Q4) (nL:Nat) (K:List Kn) (w:World) (e:Ending) (w':World):Prop:=∃z:Int,e=.returned (.int .i64 z)∧decide (0≤z) = !K.all (mayB T nL)∧Below w.heap.size w w'
theorem idxM_any {w:World} (now nx:Int) {eb:Nat} {a:Option Addr} (cap:Nat) {aT aO aP aL aK:Option Addr} {cT nO cO nP cP nL cL nK cK:Nat} {T:List Q4} {K:List Kn} (hE:Lay w eb [.int .i64 now,.slice aT T.length cT,.slice aO nO cO,.slice aP nP cP,.slice aL nL cL,.slice aK nK cK,.int .i64 nx]) (hT:Quad w.heap.size w aT T) (hl:T.length≤30) (hL:nL≤1048576) (h:Kls w.heap.size w a K) (hk:K.length≤40) (sK:∀c ∈ K,c.xs.length≤maxLen) :
 Calls Tryz.prog 126 #[.slice a K.length cap,.func (.func 66) #[] #[.pointer (some ⟨eb,0,none⟩)]] w (IdxMPost T nL K w):=by
 have eg:∀args w,(callFunc 66 args).run Tryz.prog w=.ok (.enter 66 args) w:=enters_of Tryz.func66 (by kernel_rfl) rfl
 have hl':(K.length:Int)≤40:=by omega
 go_enter Tryz.func126,Tryz.ntmps126
 go_wp2
 go_loopw [8] (fun i wr=>∃k:Nat,i=.int .i64 k∧k≤K.length∧Hid (∀m (h:m<K.length),m<k→mayB T nL K[m]=true)∧Below w.heap.size w wr) (fun i _=>K.length-(intOf i).toNat)
 case atStart=>exact ⟨0,rfl,by omega,(fun m h k=>by omega),Below.refl _ _⟩
 case round =>
  obtain ⟨k,rfl,hk,HA,hbw⟩:=hrel
  by_cases hlt:k<K.length
  ·have hlt':(k:Int)<(K.length:Int):=by omega
   obtain ⟨b,off,sa,sc,hak,hbl,d0,d13,sm⟩:=h.at hbw k hlt
   subst hak
   obtain ⟨c,hc⟩:∃c,K[k]=c:=⟨_,rfl⟩
   have HX:Hid (K[k]=c):=hc
   have hxs:c.xs.length≤maxLen:=by rw [←hc];exact sK _ (List.getElem_mem hlt)
   rw [hc] at d0 d13 sm
   clear hc
   have e0:wr.cell? ⟨b,off+k*14,none⟩=some (.int .i64 c.id):=d0 0 _ rfl
   have e1:wr.cell? ⟨b,off+k*14+1,none⟩=some (.int .i64 c.lf):=d0 1 _ rfl
   have e2:wr.cell? ⟨b,off+k*14+2,none⟩=some (.int .i64 c.pl):=d0 2 _ rfl
   have e3:wr.cell? ⟨b,off+k*14+3,none⟩=some (.int .i64 c.k):=d0 3 _ rfl
   have e4:wr.cell? ⟨b,off+k*14+4,none⟩=some (.int .i64 c.wn):=d0 4 _ rfl
   have e5:wr.cell? ⟨b,off+k*14+5,none⟩=some (.int .i64 c.th):=d0 5 _ rfl
   have e6:wr.cell? ⟨b,off+k*14+6,none⟩=some (.int .i64 c.fl):=d0 6 _ rfl
   have e7:wr.cell? ⟨b,off+k*14+7,none⟩=some (.int .i64 c.ac):=d0 7 _ rfl
   have e8:wr.cell? ⟨b,off+k*14+8,none⟩=some (.int .i64 c.la):=d0 8 _ rfl
   have e9:wr.cell? ⟨b,off+k*14+9,none⟩=some (.int .i64 c.og):=d0 9 _ rfl
   have e10:wr.cell? ⟨b,off+k*14+10,none⟩=some (.int .i64 c.st):=d0 10 _ rfl
   have e11:wr.cell? ⟨b,off+k*14+11,none⟩=some (.int .i64 c.fr):=d0 11 _ rfl
   have e12:wr.cell? ⟨b,off+k*14+12,none⟩=some (.bool c.sl):=d0 12 _ rfl
   have e13:wr.cell? ⟨b,off+k*14+13,none⟩=some (.slice sa c.xs.length sc):=d13
   have hd:=notMay_any (w:=wr) (sa:=sa) (sc:=sc) now nx c (hE.next hbw) (hT.here hbw) hl hL (sm.up hbw.size) hxs
   cases hp:mayB T nL c
   ·rw [hp] at hd
    have HB:Hid (K.all (mayB T nL)=false):=by
     show K.all (mayB T nL)=false
     rw [List.all_eq_false]
     exact ⟨K[k],List.getElem_mem hlt,by rw [HX.out,hp];simp⟩
    go_wp2_with (first|(go_at_call 66;refine hd.mono ?_;rintro e w3 ⟨rfl,hb3⟩))
    go_ret
    exact ⟨k,rfl,by rw [HB.out];exact decide_eq_true (by omega),below_step hbw hb3⟩
   ·rw [hp] at hd
    go_wp2_with (first|(go_at_call 66;refine hd.mono ?_;rintro e w3 ⟨rfl,hb3⟩))
    go_roundw
    case rel =>
     refine ⟨k+1,by go_num,by omega,fun m hm hk=>?_,below_step hbw hb3⟩
     by_cases e:m=k
     ·subst e
      rw [HX.out]
      exact hp
     ·exact HA.out m hm (by omega)
    case measure=>simp [intOf]<;>omega
  ·have e:k=K.length:=by omega
   subst e
   have HB:Hid (K.all (mayB T nL)=true):=by
    show K.all (mayB T nL)=true
    rw [List.all_eq_true]
    intro x hx
    obtain ⟨i,hi,rfl⟩:=List.mem_iff_getElem.1 hx
    exact HA.out i hi hi
   go_wp2
   go_ret
   exact ⟨-1,rfl,by rw [HB.out];rfl,hbw⟩
theorem hasM_is {w:World} {now nx:Int} {eb:Nat} {a:Option Addr} (cap:Nat) {aT aO aP aL aK:Option Addr} {cT nO cO nP cP nL cL nK cK:Nat} {T:List Q4} {K:List Kn} {f:Bool} (hf:K.all (mayB T nL)=f) (hE:Lay w eb [.int .i64 now,.slice aT T.length cT,.slice aO nO cO,.slice aP nP cP,.slice aL nL cL,.slice aK nK cK,.int .i64 nx]) (hT:Quad w.heap.size w aT T) (hl:T.length≤30) (hL:nL≤1048576) (h:Kls w.heap.size w a K) (hk:K.length≤40) (sK:∀c ∈ K,c.xs.length≤maxLen) :
 Calls Tryz.prog 65 #[.slice a K.length cap,.func (.func 66) #[] #[.pointer (some ⟨eb,0,none⟩)]] w fun e w'=>e=.returned (.bool (!f))∧Below w.heap.size w w':=by
 subst hf
 go_enter Tryz.func65,Tryz.ntmps65
 go_wp2_with (first|(go_at_call 126;refine (idxM_any now nx cap hE hT hl hL h hk sK).mono ?_;rintro e w2 ⟨z,rfl,hzz,hb2⟩;have HZ:Hid (decide (0≤z) = !K.all (mayB T nL)):=hzz;clear hzz))
 go_ret
 exact ⟨retC HZ.out,hb2⟩
theorem sConK_any (k:Int) (w:World):Calls Tryz.prog 51 #[.int .i64 k] w fun e w'=>e=.returned (.bool (conK k))∧w'=w:=by
 by_cases h1:k=1
 ·subst h1
  go_enter Tryz.func51,Tryz.ntmps51
  go_wp2
  go_ret
  exact ⟨rfl,rfl⟩
 by_cases h2:k=2
 ·subst h2
  go_enter Tryz.func51,Tryz.ntmps51
  go_wp2
  go_ret
  exact ⟨rfl,rfl⟩
 have HK:Hid (conK k=false):=by show conK k=false;unfold conK;rw [decide_eq_false h1,decide_eq_false h2];rfl
 have h1':(k == 1)=false:=by simp [h1]
 have h2':(k == 2)=false:=by simp [h2]
 clear h1 h2
 go_enter Tryz.func51,Tryz.ntmps51
 go_wp2
 go_ret
 exact ⟨retC HK.out.symm,rfl⟩
theorem sConK_is {k:Int} {f:Bool} (h:conK k=f) (w:World):Calls Tryz.prog 51 #[.int .i64 k] w fun e w'=>e=.returned (.bool f)∧w'=w:=by subst h;exact sConK_any k w
end Go.Proofs.YthiojkjcmhojoaaGreat
