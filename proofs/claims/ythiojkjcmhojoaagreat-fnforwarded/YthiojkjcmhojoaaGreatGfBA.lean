import Derived.Test.YthiojkjcmhojoaaGreatGfAZ
import Derived.Test.YthiojkjcmhojoaaGreatGfAS
import Derived.Test.YthiojkjcmhojoaaGreatGfAJ
import Derived.Test.YthiojkjcmhojoaaGreatGfAY
namespace Go.Proofs.YthiojkjcmhojoaaGreat
set_option maxHeartbeats 8000000
open Go.ChangeShapes Go.WideShapes Go.ChangeAt Go.RowKit
set_option maxRecDepth 100000
set_option linter.unusedVariables false
set_option linter.unusedSimpArgs false
theorem zj5 {lo x hi:Int} {f:Bool} (h:inQ lo x hi=f) (w:World):Calls Tryz.prog 62 #[.int .i64 x,.int .i64 lo,.int .i64 hi] w fun e w'=>e=.returned (.bool f)∧w'=w:=by subst h;exact zbz lo x hi w
theorem zts {x:Int} {f:Bool} (h:inQ 0 x 1000000=f) (w:World):Calls Tryz.prog 103 #[.int .i64 x] w fun e w'=>e=.returned (.bool f)∧w'=w:=by
 go_enter Tryz.func103,Tryz.ntmps103
 go_wp2_with (first
  | (go_at_call 62;refine (zj5 h _).mono ?_;rintro e w2 ⟨rfl,rfl⟩))
 go_ret
 exact ⟨rfl,rfl⟩
open Classical in
noncomputable def zuy (xs:List Int):Bool:=decide (MemTo xs xs.length)
open Classical in
theorem zyt {xs:List Int} (h:MemTo xs xs.length):zuy xs=true:=by
 unfold zuy
 exact decide_eq_true h
open Classical in
theorem zqb {xs:List Int} (h:¬MemTo xs xs.length):zuy xs=false:=by
 unfold zuy
 exact decide_eq_false h
open Classical in
theorem zw4 {xs:List Int} (h:zuy xs=true):MemTo xs xs.length:=by
 unfold zuy at h
 exact of_decide_eq_true h
open Classical in
theorem z0b {xs:List Int} (h:zuy xs=false):¬MemTo xs xs.length:=by
 unfold zuy at h
 exact of_decide_eq_false h
theorem zuz {w:World} {a:Option Addr} (cap:Nat) {xs:List Int} (hl:xs.length≤50) (smp:ISmp w.heap.size w a xs):Calls Tryz.prog 63 #[.slice a xs.length cap] w fun e w'=>e=.returned (.bool (zuy xs))∧w'=w:=by
 obtain ⟨f,hf⟩:∃f,zuy xs=f:=⟨_,rfl⟩
 rw [hf]
 go_enter Tryz.func63,Tryz.ntmps63
 go_wp2
 go_loop [7] (fun i=>∃(k:Nat),i=.int .i64 k∧k≤xs.length∧MemTo xs k) (fun i=>xs.length-(intOf i).toNat)
 case atStart=>exact ⟨0,rfl,by omega,MemTo.zero xs⟩
 case round =>
  obtain ⟨k,rfl,hk,hM⟩:=hrel
  by_cases hlt:k<xs.length
  ·have hlt':(k:Int)<(xs.length:Int):=by omega
   have hk0:(0:Int)≤(k:Int):=by omega
   cases h3:inQ 0 xs[k] 1000000
   ·obtain rfl:f=false:=by
     rw [←hf]
     refine zqb (fun h=>?_)
     have:=(h k hlt hlt).1
     unfold inQ at h3
     simp [this.1,this.2] at h3
    obtain ⟨b,off,rfl,hb,c0⟩:=smp k hlt
    obtain ⟨y,hy⟩:∃y,xs[k]=y:=⟨_,rfl⟩
    rw [hy] at c0 h3
    clear hy hf
    go_wp2_with (first
     | (go_at_call 103;refine (zts h3 _).mono ?_;rintro e w2 ⟨rfl,rfl⟩))
    go_ret
    exact ⟨rfl,rfl⟩
   have h3n:0≤xs[k]∧xs[k]≤1000000:=by
    unfold inQ at h3
    simp only [Bool.and_eq_true,decide_eq_true_eq] at h3
    exact h3
   by_cases hz:k=0
   ·subst hz
    have hN:MemTo xs 1:=hM.next hlt h3n (fun j hj e=>by omega)
    obtain ⟨b,off,rfl,hb,c0⟩:=smp 0 hlt
    have hlt0:(0:Int)<(xs.length:Int):=by omega
    obtain ⟨y,hy⟩:∃y,xs[0]=y:=⟨_,rfl⟩
    rw [hy] at c0 h3
    rw [Nat.add_zero] at c0
    clear hy h3n
    go_wp2_with (first
     | (go_at_call 103;refine (zts h3 _).mono ?_;rintro e w2 ⟨rfl,rfl⟩))
    go_round
    case rel=>exact ⟨1,by go_num,by omega,hN⟩
    case measure=>simp [intOf]<;>omega
   obtain ⟨l,rfl⟩:∃l,k=l+1:=⟨k-1,by omega⟩
   have hl1:IntKind.i64.wrap ((l:Int)+1-1)=(l:Int):=by rw [IntKind.wrap_i64];omega
   have hl2:IntKind.i64.wrap (((l+1:Nat):Int)-1)=(l:Int):=by rw [IntKind.wrap_i64];omega
   have hl3:(l:Int)<(xs.length:Int):=by omega
   have hl4:(0:Int)<((l+1:Nat):Int):=by omega
   have hl5:(0:Int)<(l:Int)+1:=by omega
   have hl6:IntKind.i64.wrap (l:Int)=(l:Int):=by rw [IntKind.wrap_i64];omega
   obtain ⟨b,off,rfl,hb,c0⟩:=smp (l+1) hlt
   obtain ⟨b',off',e',hb',c1⟩:=smp l (by omega)
   injection e' with e'
   injection e' with e1 e2
   subst e1 e2
   obtain ⟨y,hy⟩:∃y,xs[l+1]=y:=⟨_,rfl⟩
   obtain ⟨z,hzz⟩:∃z,xs[l]=z:=⟨_,rfl⟩
   by_cases h4:y≤z
   ·obtain rfl:f=false:=by
     rw [←hf]
     refine zqb (fun h=>?_)
     have:=(h (l+1) hlt hlt).2 l (by omega) rfl
     rw [hy,hzz] at this
     omega
    rw [hy] at c0 h3
    rw [hzz] at c1
    clear hy hzz hf h3n
    go_wp2_with (first
     | (go_at_call 103;refine (zts h3 _).mono ?_;rintro e w2 ⟨rfl,rfl⟩))
    go_ret
    exact ⟨rfl,rfl⟩
   ·have hN:MemTo xs (l+1+1):=hM.next hlt h3n (fun j hj e=>by obtain rfl:j=l:=(by omega);rw [hy,hzz];omega)
    rw [hy] at c0 h3
    rw [hzz] at c1
    clear hy hzz h3n
    go_wp2_with (first
     | (go_at_call 103;refine (zts h3 _).mono ?_;rintro e w2 ⟨rfl,rfl⟩))
    go_round
    case rel=>exact ⟨l+1+1,by go_num,by omega,hN⟩
    case measure=>simp [intOf]<;>omega
  ·have e:k=xs.length:=by omega
   subst e
   obtain rfl:f=true:=by
    rw [←hf]
    exact zyt hM
   go_wp2
   go_ret
   exact ⟨rfl,rfl⟩
theorem zg3 {w:World} {a:Option Addr} (cap:Nat) {xs:List Int} {f:Bool} (hf:zuy xs=f) (hl:xs.length≤50) (smp:ISmp w.heap.size w a xs):Calls Tryz.prog 63 #[.slice a xs.length cap] w fun e w'=>e=.returned (.bool f)∧w'=w:=by subst hf;exact zuz cap hl smp
theorem zlp {wd fl:Int} {w:World} {a:Option Addr} (cap:Nat) {xs:List Int} (smp:ISmp w.heap.size w a xs):Calls Tryz.prog 112 #[.agg #[.int .i64 wd,.int .i64 fl,.slice a xs.length cap]] w fun e w'=>e=.returned (.bool (plB wd fl xs))∧Below w.heap.size w w':=by
 cases h0:zgr wd
 ·rw [zeq (fun h=>by have q:=h.1;rw [h0] at q;cases q)]
  go_enter Tryz.func112,Tryz.ntmps112
  go_wp2_with (first
   | (go_at_call 150;refine (zbv h0 _).mono ?_;rintro e w2 ⟨rfl,rfl⟩))
  go_ret
  exact ⟨rfl,by go_grown⟩
 cases h1:zf4 fl
 ·rw [zeq (fun h=>by have q:=h.2.1;rw [h1] at q;cases q)]
  go_enter Tryz.func112,Tryz.ntmps112
  go_wp2_with (first
   | (go_at_call 150;refine (zbv h0 _).mono ?_;rintro e w2 ⟨rfl,rfl⟩)
   | (go_at_call 118;refine (zb8 h1 _).mono ?_;rintro e w2 ⟨rfl,rfl⟩))
  go_ret
  exact ⟨rfl,by go_grown⟩
 by_cases h2:(50:Int)<(xs.length:Int)
 ·rw [zeq (fun h=>by have:=h.2.2.1;omega)]
  go_enter Tryz.func112,Tryz.ntmps112
  go_wp2_with (first
   | (go_at_call 150;refine (zbv h0 _).mono ?_;rintro e w2 ⟨rfl,rfl⟩)
   | (go_at_call 118;refine (zb8 h1 _).mono ?_;rintro e w2 ⟨rfl,rfl⟩))
  go_ret
  exact ⟨rfl,by go_grown⟩
 have h2':decide ((50:Int)<(xs.length:Int))=false:=decide_eq_false h2
 have h2n:xs.length≤50:=by omega
 cases h3:zuy xs
 ·rw [zeq (fun h=>z0b h3 h.2.2.2)]
  go_enter Tryz.func112,Tryz.ntmps112
  go_wp2_with (first
   | (go_at_call 150;refine (zbv h0 _).mono ?_;rintro e w2 ⟨rfl,rfl⟩)
   | (go_at_call 118;refine (zb8 h1 _).mono ?_;rintro e w2 ⟨rfl,rfl⟩)
   | (go_at_call 63;refine (zg3 cap h3 h2n (smp.here (by go_grown))).mono ?_;rintro e w2 ⟨rfl,rfl⟩))
  go_ret
  exact ⟨rfl,by go_grown⟩
 ·rw [zi3 ⟨h0,h1,h2n,zw4 h3⟩]
  go_enter Tryz.func112,Tryz.ntmps112
  go_wp2_with (first
   | (go_at_call 150;refine (zbv h0 _).mono ?_;rintro e w2 ⟨rfl,rfl⟩)
   | (go_at_call 118;refine (zb8 h1 _).mono ?_;rintro e w2 ⟨rfl,rfl⟩)
   | (go_at_call 63;refine (zg3 cap h3 h2n (smp.here (by go_grown))).mono ?_;rintro e w2 ⟨rfl,rfl⟩))
  go_ret
  exact ⟨rfl,by go_grown⟩
theorem zd8 {wd fl:Int} {w:World} {a:Option Addr} (cap:Nat) {xs:List Int} {f:Bool} (hf:plB wd fl xs=f) (smp:ISmp w.heap.size w a xs):Calls Tryz.prog 112 #[.agg #[.int .i64 wd,.int .i64 fl,.slice a xs.length cap]] w fun e w'=>e=.returned (.bool f)∧Below w.heap.size w w':=by subst hf;exact zlp cap smp
theorem zw5 {w:World} {g:Nat} {t:TypeId} {xs:List Int} (h:w.heap[g]?=some (.cells (za7 xs).toArray t (0,0))):IFill w g xs.length xs xs.length :=
 ⟨fun j hj=>⟨⟨xs[j],by rw [cell_of_row w g j _ t (0,0) h,List.getElem?_toArray];unfold za7;rw [List.getElem?_map,List.getElem?_eq_getElem hj];rfl⟩,frozen_of_row w g j _ t h⟩,fun i hi hk=>by rw [cell_of_row w g i _ t (0,0) h,List.getElem?_toArray];unfold za7;rw [List.getElem?_map,List.getElem?_eq_getElem hi];rfl⟩
theorem zu0 {α:Type} (L cs:List α) (h:L.length=cs.length):splice L 0 cs=cs:=by
 unfold splice
 rw [List.take_zero,List.nil_append,Nat.zero_add,←h,List.drop_length,List.append_nil]
theorem zyu {wd fl:Int} {w:World} {a:Option Addr} (cap:Nat) {xs:List Int} (hl:xs.length≤1048576) (smp:ISmp w.heap.size w a xs):Calls Tryz.prog 100 #[.agg #[.int .i64 wd,.int .i64 fl,.slice a xs.length cap]] w (AnsP w xs wd fl):=by
 obtain ⟨i0,hi,hz0,hz1,hz2⟩:=info_parts zep
 go_enter Tryz.func100,Tryz.ntmps100
 go_upto_region 1 with (fail)
 obtain ⟨x,hx⟩:∃x,x=(w.alloc (.cells #[.int .i64 wd,.int .i64 fl,.slice a xs.length cap] 50)).alloc (.cells #[.int .i64 0,.int .i64 0,.slice none 0 0] 50):=⟨_,rfl⟩
 rw [←hx]
 have hbw:Below w.heap.size w x:=by rw [hx];go_grown
 have zl:w.heap.size+1+1≤x.heap.size:=by rw [hx];simp
 have p0:x.cell? ⟨w.heap.size,0,none⟩=some (.int .i64 wd):=by rw [hx];go_simp
 have p1:x.cell? ⟨w.heap.size,1,none⟩=some (.int .i64 fl):=by rw [hx];go_simp
 have p2:x.cell? ⟨w.heap.size,2,none⟩=some (.slice a xs.length cap):=by rw [hx];go_simp
 have v0:x.cell? ⟨w.heap.size+1,0,none⟩=some (.int .i64 0):=by rw [hx];go_simp
 have v1:x.cell? ⟨w.heap.size+1,1,none⟩=some (.int .i64 0):=by rw [hx];go_simp
 have v2:x.cell? ⟨w.heap.size+1,2,none⟩=some (.slice none 0 0):=by rw [hx];go_simp
 have pz:∀o:Nat,x.frozen? ⟨w.heap.size,o,none⟩=false:=fun o=>by rw [hx];go_simp
 have vz:∀o:Nat,x.frozen? ⟨w.heap.size+1,o,none⟩=false:=fun o=>by rw [hx];go_simp
 clear hx
 go_upto_region 2 with (first
  | (at_make;refine wpList_make_full _ rfl _ _ 45 rfl x.heap.size 2 i0 _ 1 Tryz.underlying45 hi hz0 hz1 _ _ _ _ xs.length rfl rfl rfl rfl (by rw [hz2];omega) (by unfold maxLen;omega) (Nat.le_refl _) ?_;intro w3 own3 gr3;have hb3:Below x.heap.size x w3:=(Below.refl _ _).grown gr3 (Nat.le_refl _) (fun k hk=>by cases hk);have z3:=zl;have hbw:Below w.heap.size w w3:=zaa hbw hb3;have p0:=(hb3.cell (p:=⟨w.heap.size,0,none⟩) (by show w.heap.size<_;omega)).trans p0;have p1:=(hb3.cell (p:=⟨w.heap.size,1,none⟩) (by show w.heap.size<_;omega)).trans p1;have p2:=(hb3.cell (p:=⟨w.heap.size,2,none⟩) (by show w.heap.size<_;omega)).trans p2;have v0:=(hb3.cell (p:=⟨w.heap.size+1,0,none⟩) (by show w.heap.size+1<_;omega)).trans v0;have v1:=(hb3.cell (p:=⟨w.heap.size+1,1,none⟩) (by show w.heap.size+1<_;omega)).trans v1;have v2:=(hb3.cell (p:=⟨w.heap.size+1,2,none⟩) (by show w.heap.size+1<_;omega)).trans v2;have vz:∀o:Nat,w3.frozen? ⟨w.heap.size+1,o,none⟩=false:=fun o=>(hb3.frozen (p:=⟨w.heap.size+1,o,none⟩) (by show w.heap.size+1<_;omega)).trans (vz o);have zl:w.heap.size+1+1≤w3.heap.size:=Nat.le_trans zl hb3.size;have pz:∀o:Nat,w3.frozen? ⟨w.heap.size,o,none⟩=false:=(fun o=>(hb3.frozen (p:=⟨w.heap.size,o,none⟩) (by show w.heap.size<_;omega)).trans (pz o))))
 obtain ⟨L,hL,hrow⟩:∃L:List Value,L.length=xs.length∧w3.heap[x.heap.size]?=some (.cells L.toArray 2 (0,0)):=by
  rcases own3.2 with ⟨e,_⟩|⟨g,c,cur,e,_,hg,hnc,hcm,hcs,_⟩
  ·cases e
  ·cases e
   exact ⟨cur.toList,by rw [Array.length_toList,hcs];omega,by simpa using hg⟩
 have hsm:Hid (∀j v,(za7 xs)[j]?=some v→∃ad,a=some ad∧w3.cell? (ad.add j)=some v):=fun j v hv=>by
  have hj:j<xs.length:=by have:=(List.getElem?_eq_some_iff.1 hv).1;rwa [ze9] at this
  obtain ⟨b,off,e,_⟩:=smp j hj
  subst e
  exact ⟨_,rfl,zli (smp.mono hbw) j v hv⟩
 have HL:Hid (L.length=xs.length):=hL
 have HSM:Hid (∀u ∈ za7 xs,u.oneCell'=true):=zdk xs
 obtain ⟨X1,hX1⟩:∃X1,X1=za7 xs:=⟨_,rfl⟩
 have HX:Hid (X1.length=xs.length):=by show _=_;rw [hX1,ze9]
 have HXE:Hid (X1=za7 xs):=hX1
 rw [←hX1] at hsm HSM
 clear hX1 hL
 have hpos:Hid (0<X1.length→(some (⟨x.heap.size,0,none⟩:Addr))=some ⟨x.heap.size,0,none⟩∧∃ad,a=some ad∧∀j v,X1[j]?=some v→w3.cell? (ad.add j)=some v):=fun h0=>⟨rfl,by
  obtain ⟨ad,e,_⟩:=hsm.out 0 X1[0] (List.getElem?_eq_getElem h0)
  exact ⟨ad,e,fun j v hv=>by obtain ⟨ad',e',h⟩:=hsm.out j v hv;rw [e] at e';cases e';exact h⟩⟩
 go_upto_region 3 with (first
  | (refine wpList_copy_splice rfl (.tmp 8) (.tmp 10) 45 45 rfl 2 Tryz.underlying45 (by kernel_rfl) _ _ _ _ _ _ rfl rfl x.heap.size 0 L 2 hrow X1 (HX.out.trans (Nat.min_self _).symm) hpos.out (by have:=HX.out;have:=HL.out;omega) HSM.out x.heap.size w3 (Below.refl _ _) (Nat.le_refl _) ?_;intro w4 HG4 hb4))
 have gr:x.heap.size<w3.heap.size:=(own3.lt _ rfl).2
 have oC:Below w.heap.size w w4:=hbw.trans (hb4.mono (by omega))
 have f4:IFill w4 x.heap.size xs.length xs xs.length:=by
  have h:=HG4.out
  rw [zu0 _ _ (HL.out.trans HX.out.symm),HXE.out] at h
  exact zw5 h
 have z4:=hb4.size
 have p0:=(hb4.cell (p:=⟨w.heap.size,0,none⟩) (by show w.heap.size<_;omega)).trans p0
 have p1:=(hb4.cell (p:=⟨w.heap.size,1,none⟩) (by show w.heap.size<_;omega)).trans p1
 have p2:=(hb4.cell (p:=⟨w.heap.size,2,none⟩) (by show w.heap.size<_;omega)).trans p2
 have v0:=(hb4.cell (p:=⟨w.heap.size+1,0,none⟩) (by show w.heap.size+1<_;omega)).trans v0
 have v1:=(hb4.cell (p:=⟨w.heap.size+1,1,none⟩) (by show w.heap.size+1<_;omega)).trans v1
 have v2:=(hb4.cell (p:=⟨w.heap.size+1,2,none⟩) (by show w.heap.size+1<_;omega)).trans v2
 have pz:∀o:Nat,w4.frozen? ⟨w.heap.size,o,none⟩=false:=fun o=>(hb4.frozen (p:=⟨w.heap.size,o,none⟩) (by show w.heap.size<_;omega)).trans (pz o)
 have vz:∀o:Nat,w4.frozen? ⟨w.heap.size+1,o,none⟩=false:=fun o=>(hb4.frozen (p:=⟨w.heap.size+1,o,none⟩) (by show w.heap.size+1<_;omega)).trans (vz o)
 have gx:x.heap.size<w4.heap.size:=by omega
 clear HG4 hrow hpos hsm own3 gr3 HL HX HXE HSM
 go_upto_region 4 with (fail)
 obtain ⟨x4,hx4⟩:∃y,y=w4.setCell ⟨w.heap.size,2,none⟩ (.slice (some ⟨x.heap.size,0,none⟩) xs.length xs.length):=⟨_,rfl⟩
 rw [←hx4]
 have oX:Only w.heap.size w4 x4:=by rw [hx4];exact (Only.refl _ w4).setCell (p:=⟨w.heap.size,2,none⟩) rfl _
 have p0:x4.cell? ⟨w.heap.size,0,none⟩=some (.int .i64 wd):=by rw [hx4];exact (zar (by decide)).trans p0
 have p1:x4.cell? ⟨w.heap.size,1,none⟩=some (.int .i64 fl):=by rw [hx4];exact (zar (by decide)).trans p1
 have p2:x4.cell? ⟨w.heap.size,2,none⟩=some (.slice (some ⟨x.heap.size,0,none⟩) xs.length xs.length):=by rw [hx4];exact zcl _ p2
 have v0:x4.cell? ⟨w.heap.size+1,0,none⟩=some (.int .i64 0):=(oX.cell (by show w.heap.size+1<_;omega) (by show w.heap.size+1≠_;omega)).trans v0
 have v1:x4.cell? ⟨w.heap.size+1,1,none⟩=some (.int .i64 0):=(oX.cell (by show w.heap.size+1<_;omega) (by show w.heap.size+1≠_;omega)).trans v1
 have v2:x4.cell? ⟨w.heap.size+1,2,none⟩=some (.slice none 0 0):=(oX.cell (by show w.heap.size+1<_;omega) (by show w.heap.size+1≠_;omega)).trans v2
 have vz:∀o:Nat,x4.frozen? ⟨w.heap.size+1,o,none⟩=false:=fun o=>(oX.frozen (by show w.heap.size+1<_;omega) (by show w.heap.size+1≠_;omega)).trans (vz o)
 have f4:IFill x4 x.heap.size xs.length xs xs.length:=f4.only oX gx (by omega)
 have hbw:Below w.heap.size w x4:=oC.trans (oX.below (Nat.le_refl _) (by omega))
 have zX:=oX.size
 clear hx4 oX
 go_wp2
 obtain ⟨y,ey,cs,fzy,sz,hbel,hon⟩:=zpl (.int .i64 wd) (.int .i64 fl) (.slice (some ⟨x.heap.size,0,none⟩) xs.length xs.length) (w:=x4) (g:=w.heap.size+1) v0 v1 v2
 rw [←ey]
 refine bodyPost_ret (zaj rfl _ _ _ [.int .i64 wd,.int .i64 fl,.slice (some ⟨x.heap.size,0,none⟩) xs.length xs.length] rfl cs Tryz.underlying50 rfl (by kernel_rfl)) rfl ?_
 exact ⟨_,_,_,rfl,.inl ⟨x.heap.size,xs.length,rfl,by omega,by omega,f4.only hon (by omega) (by omega),Nat.le_refl _⟩,hbw.trans (hbel _ (by omega))⟩
theorem z0c {n:Int} (h:0≤n∧n≤1000000000):zf4 n=true:=by
 unfold zf4
 simp [h.1,h.2]
theorem z1o {n:Int} (h:3000≤n∧n≤1000000000):zgr n=true:=by
 unfold zgr
 simp [h.1,h.2]
def ztt (wd fl n:Int) (xs:List Int):Prop:=plB wd fl xs=true∧inQ 1 n 1000000000=true
theorem zw6 {wd fl n:Int} {lost:Bool} {xs:List Int} (h:ztt wd fl n xs):plB (zdj wd n lost) (max 0 (fl-n)) xs=true∧¬(zdj wd n lost=0)∧¬(fl<max 0 (fl-n))∧(lost=false→¬(zdj wd n lost<wd))∧(lost=true→¬(wd<zdj wd n lost)):=by
 obtain ⟨hp,hn⟩:=h
 obtain ⟨a,b,c,d⟩:=zm0 hp
 obtain ⟨h1,h2,h3⟩:=zp0 hp
 obtain ⟨n1,n2⟩:=zrj hn
 have dv:0≤n*1500 / wd:=Int.ediv_nonneg (by omega) (by omega)
 have hw:3000≤zdj wd n lost∧zdj wd n lost≤1000000000∧(lost=false→wd≤zdj wd n lost)∧(lost=true→zdj wd n lost≤wd):=by
  unfold zdj
  cases lost
  ·rw [if_neg (by decide)]
   exact ⟨by omega,by omega,fun _=>by omega,fun e=>(by cases e)⟩
  ·rw [if_pos rfl]
   exact ⟨by omega,by omega,fun e=>(by cases e),fun _=>by omega⟩
 exact ⟨zi3 ⟨z1o ⟨hw.1,hw.2.1⟩,z0c (by omega),c,d⟩,by omega,by omega,fun e=>by have:=hw.2.2.1 e;omega,fun e=>by have:=hw.2.2.2 e;omega⟩
theorem zu1 {wd fl n:Int} {xs:List Int} (h:zax wd fl n xs=true):ztt wd (fl+n) n xs∧max 0 (fl+n-n)=fl∧fl+n≤wd∧wd≤zdj wd n false:=by
 obtain ⟨hp,hn,hle⟩:=ztl h
 obtain ⟨a,b,c,d⟩:=zm0 hp
 obtain ⟨h1,h2,h3⟩:=zp0 hp
 obtain ⟨n1,n2⟩:=zrh hn
 have hf:ztt wd (fl+n) n xs:=⟨zi3 ⟨a,z0c (by omega),c,d⟩,by unfold inQ;simp;omega⟩
 have k:=(zw6 (lost:=false) hf).2.2.2.1 rfl
 exact ⟨hf,by omega,hle,by omega⟩
theorem zyv {xs:List Int} {id:Int}:(zjt xs id).length=xs.length+1:=by
 unfold zjt
 rw [List.length_append,List.length_cons]
 have h:=congrArg List.length (List.takeWhile_append_dropWhile (p:=fun y=>decide (y<id)) (l:=xs))
 rw [List.length_append] at h
 omega
theorem zn2 {xs:List Int}:MemTo xs xs.length ↔ (∀x ∈ xs,0≤x∧x≤1000000)∧xs.Pairwise (·<·):=by
 constructor
 ·intro h
  refine ⟨fun x hx=>?_,List.pairwise_iff_getElem.2 (fun i j hi hj hij=>zyp h hij hj)⟩
  obtain ⟨i,hi,e⟩:=List.mem_iff_getElem.1 hx
  rw [←e]
  exact (h i hi hi).1
 ·rintro ⟨h1,h2⟩ i hi _
  exact ⟨h1 _ (List.getElem_mem hi),fun j hj e=>List.pairwise_iff_getElem.1 h2 j i hj hi (by omega)⟩
theorem zw7 {xs:List Int} {id:Int} (h:MemTo xs xs.length) (hh:hasI id xs=false):(∀x ∈ xs.takeWhile (fun y=>decide (y<id)),x<id)∧(∀x ∈ xs.dropWhile (fun y=>decide (y<id)),id<x):=by
 have hp:=(zn2.1 h).2
 have hn:id ∉ xs:=of_decide_eq_false hh
 refine ⟨fun x hx=>by have h:=List.all_eq_true.1 (List.all_takeWhile (p:=fun y=>decide (y<id)) (l:=xs)) x hx;simpa using h,?_⟩
 have key:∀(L:List Int),L.Pairwise (·<·)→id ∉ L→∀x ∈ L.dropWhile (fun y=>decide (y<id)),id<x:=by
  intro L
  induction L with
  | nil=>intro _ _ x hx;cases hx
  | cons y L ih =>
   intro hp hn x hx
   obtain ⟨h1,h2⟩:=List.pairwise_cons.1 hp
   by_cases hy:y<id
   ·rw [List.dropWhile_cons_of_pos (by simpa using hy)] at hx
    exact ih h2 (fun k=>hn (List.mem_cons_of_mem _ k)) x hx
   ·rw [List.dropWhile_cons_of_neg (by simpa using hy)] at hx
    have hne:y≠id:=fun e=>hn (by rw [e];exact List.mem_cons_self)
    rcases List.mem_cons.1 hx with rfl|hx
    ·omega
    ·have:=h1 x hx
     omega
 exact key xs hp hn
theorem zj6 {xs:List Int} {id:Int} (h:MemTo xs xs.length) (hh:hasI id xs=false) (hi:inQ 0 id 1000000=true):MemTo (zjt xs id) (zjt xs id).length:=by
 obtain ⟨h1,h2⟩:=zw7 h hh
 obtain ⟨m1,m2⟩:=zn2.1 h
 have hx:xs=xs.takeWhile (fun y=>decide (y<id)) ++ xs.dropWhile (fun y=>decide (y<id)):=List.takeWhile_append_dropWhile.symm
 rw [hx] at m2
 obtain ⟨p1,p2,p3⟩:=List.pairwise_append.1 m2
 refine zn2.2 ⟨fun x hx=>?_,?_⟩
 ·unfold zjt at hx
  rcases List.mem_append.1 hx with k|k
  ·exact m1 x ((List.takeWhile_sublist _).mem k)
  ·rcases List.mem_cons.1 k with rfl|k
   ·exact zrj hi
   ·exact m1 x ((List.dropWhile_sublist _).mem k)
 ·unfold zjt
  refine List.pairwise_append.2 ⟨p1,List.pairwise_cons.2 ⟨h2,p2⟩,fun a ha b hb=>?_⟩
  rcases List.mem_cons.1 hb with rfl|hb
  ·exact h1 a ha
  ·exact p3 a ha b hb
theorem z1p {wd fl id:Int} {xs:List Int} (hp:plB wd fl xs=true) (hn:inQ 0 id 1000000=true) (h5:xs.length<50) (hh:hasI id xs=false):plB wd fl (zjt xs id)=true:=by
 obtain ⟨a,b,c,d⟩:=zm0 hp
 exact zi3 ⟨a,b,by rw [zyv];omega,zj6 d hh hn⟩
def zlq (k:Int):Bool:=decide (k=1) || decide (k=2)
theorem zyw (k:Int) (w:World):Calls Tryz.prog 80 #[.int .i64 k] w fun e w'=>e=.returned (.bool (zlq k))∧w'=w:=by
 by_cases h1:k=1
 ·subst h1
  go_enter Tryz.func80,Tryz.ntmps80
  go_wp2
  go_ret
  exact ⟨rfl,rfl⟩
 by_cases h2:k=2
 ·subst h2
  go_enter Tryz.func80,Tryz.ntmps80
  go_wp2
  go_ret
  exact ⟨rfl,rfl⟩
 have HK:Hid (zlq k=false):=by show zlq k=false;unfold zlq;rw [decide_eq_false h1,decide_eq_false h2];rfl
 have h1':(k == 1)=false:=by simp [h1]
 have h2':(k == 2)=false:=by simp [h2]
 clear h1 h2
 go_enter Tryz.func80,Tryz.ntmps80
 go_wp2
 go_ret
 exact ⟨zeg HK.out.symm,rfl⟩
theorem zn3 {k:Int} {f:Bool} (h:zlq k=f) (w:World):Calls Tryz.prog 80 #[.int .i64 k] w fun e w'=>e=.returned (.bool f)∧w'=w:=by subst h;exact zyw k w
def zmh (T:List Q4) (i:Int):Bool:=inQ 0 i ((T.length:Int)-1) && zdd T i
theorem zrq {w:World} (now nx:Int) {aT aO aP aL aK:Option Addr} {cT nO cO nP cP nL cL nK cK:Nat} {T:List Q4} (i:Int) (hT:Quad w.heap.size w aT T) (hl:T.length≤30) :
 Calls Tryz.prog 104 #[zcp now aT T.length cT aO nO cO aP nP cP aL nL cL aK nK cK nx,.int .i64 i] w fun e w'=>e=.returned (.bool (zmh T i))∧Below w.heap.size w w':=by
 obtain ⟨v,hv,L0,nb⟩:=ze8 w 31 [.int .i64 now,.slice aT T.length cT,.slice aO nO cO,.slice aP nP cP,.slice aL nL cL,.slice aK nK cK,.int .i64 nx]
 have hli:(T.length:Int)≤30:=by omega
 have r1:v.cell? ⟨w.heap.size,1,none⟩=some (.slice aT T.length cT):=L0.cell 1 _ rfl
 cases h1:inQ 0 i ((T.length:Int)-1)
 ·have HC:Hid (zmh T i=false):=by show zmh T i=false;unfold zmh;rw [h1];rfl
  go_enter Tryz.func104,Tryz.ntmps104
  go_upto_region 1 with (fail)
  rw [←hv]
  clear hv
  go_wp2_with (first|(go_at_call 62;refine (zj5 h1 _).mono ?_;rintro e w3 ⟨rfl,e3⟩;replace e3:=e3.symm;subst e3))
  go_ret
  exact ⟨zeg HC.out.symm,nb⟩
 ·cases h2:zdd T i
  ·have HC:Hid (zmh T i=false):=by show zmh T i=false;unfold zmh;rw [h1,h2];rfl
   go_enter Tryz.func104,Tryz.ntmps104
   go_upto_region 1 with (fail)
   rw [←hv]
   clear hv
   go_wp2_with (first|(go_at_call 62;refine (zj5 h1 _).mono ?_;rintro e w3 ⟨rfl,e3⟩;replace e3:=e3.symm;subst e3)|(go_at_call 147;refine (ztg cT h2 (hT.here nb) hl).mono ?_;rintro e w3 ⟨rfl,hb3⟩))
   go_ret
   exact ⟨zeg HC.out.symm,zaa nb hb3⟩
  ·have HC:Hid (zmh T i=true):=by show zmh T i=true;unfold zmh;rw [h1,h2];rfl
   go_enter Tryz.func104,Tryz.ntmps104
   go_upto_region 1 with (fail)
   rw [←hv]
   clear hv
   go_wp2_with (first|(go_at_call 62;refine (zj5 h1 _).mono ?_;rintro e w3 ⟨rfl,e3⟩;replace e3:=e3.symm;subst e3)|(go_at_call 147;refine (ztg cT h2 (hT.here nb) hl).mono ?_;rintro e w3 ⟨rfl,hb3⟩))
   go_ret
   exact ⟨zeg HC.out.symm,zaa nb hb3⟩
theorem zd3 {w:World} {now nx:Int} {aT aO aP aL aK:Option Addr} {cT nO cO nP cP nL cL nK cK:Nat} {T:List Q4} {i:Int} {f:Bool} (hf:zmh T i=f) (hT:Quad w.heap.size w aT T) (hl:T.length≤30) :
 Calls Tryz.prog 104 #[zcp now aT T.length cT aO nO cO aP nP cP aL nL cL aK nK cK nx,.int .i64 i] w fun e w'=>e=.returned (.bool f)∧Below w.heap.size w w':=by subst hf;exact zrq now nx i hT hl
theorem zd4 {w:World} {now nx:Int} {aT aO aP aL aK:Option Addr} {cT nO cO nP cP nL cL nK cK:Nat} {T:List Q4} {i:Int} {f:Bool} (hf:inQ 0 i ((nL:Int)-1)=f) (hl:nL≤1048576) :
 Calls Tryz.prog 105 #[zcp now aT T.length cT aO nO cO aP nP cP aL nL cL aK nK cK nx,.int .i64 i] w fun e w'=>e=.returned (.bool f)∧Below w.heap.size w w':=by
 obtain ⟨v,hv,L0,nb⟩:=ze8 w 31 [.int .i64 now,.slice aT T.length cT,.slice aO nO cO,.slice aP nP cP,.slice aL nL cL,.slice aK nK cK,.int .i64 nx]
 have hli:(nL:Int)≤1048576:=by omega
 have r4:v.cell? ⟨w.heap.size,4,none⟩=some (.slice aL nL cL):=L0.cell 4 _ rfl
 go_enter Tryz.func105,Tryz.ntmps105
 go_upto_region 1 with (fail)
 rw [←hv]
 clear hv
 go_wp2_with (first|(go_at_call 62;refine (zj5 hf _).mono ?_;rintro e w3 ⟨rfl,e3⟩;replace e3:=e3.symm;subst e3))
 go_ret
 exact ⟨rfl,nb⟩
theorem zyx (xs:List Int):zj2 xs=xs.all zfo:=rfl
theorem ztu {w:World} {a:Option Addr} (cap:Nat) {xs:List Int} {f:Bool} (hf:xs.all zfo=f) (h:ISmp w.heap.size w a xs) (hm:xs.length≤4611686018427387904) :
 Calls Tryz.prog 128 #[.slice a xs.length cap] w fun e w'=>e=.returned (.bool f)∧Below w.heap.size w w':=by rw [←hf,←zyx];exact zp6 cap h hm
def zgk (T:List Q4) (nL:Nat) (c:Kn):Bool:=((((zmh T c.lf && inQ 0 c.pl ((nL:Int)-1)) && ccB c.k c.wn c.th c.fl c.ac c.la c.og c.st c.fr) && zlq c.k) && decide (c.xs.length≤100)) && c.xs.all zfo
theorem zyy {w:World} (now nx:Int) {sa:Option Addr} {sc:Nat} {aT aO aP aL aK:Option Addr} {cT nO cO nP cP nL cL nK cK:Nat} {T:List Q4} (c:Kn) (hT:Quad w.heap.size w aT T) (hl:T.length≤30) (hL:nL≤1048576) (hs:ISmp w.heap.size w sa c.xs) (hm:c.xs.length≤maxLen) :
 Calls Tryz.prog 67 #[zcp now aT T.length cT aO nO cO aP nP cP aL nL cL aK nK cK nx,.agg #[.int .i64 c.id,.int .i64 c.lf,.int .i64 c.pl,.int .i64 c.k,.int .i64 c.wn,.int .i64 c.th,.int .i64 c.fl,.int .i64 c.ac,.int .i64 c.la,.int .i64 c.og,.int .i64 c.st,.int .i64 c.fr,.bool c.sl,.slice sa c.xs.length sc]] w fun e w'=>e=.returned (.bool (zgk T nL c))∧Below w.heap.size w w':=by
 have hmi:(c.xs.length:Int)≤9223372036854775807:=by unfold maxLen at hm;omega
 obtain ⟨v,hv⟩:∃v,v=(w.alloc (.cells #[.int .i64 now,.slice aT T.length cT,.slice aO nO cO,.slice aP nP cP,.slice aL nL cL,.slice aK nK cK,.int .i64 nx] 31)).alloc (.cells #[.int .i64 c.id,.int .i64 c.lf,.int .i64 c.pl,.int .i64 c.k,.int .i64 c.wn,.int .i64 c.th,.int .i64 c.fl,.int .i64 c.ac,.int .i64 c.la,.int .i64 c.og,.int .i64 c.st,.int .i64 c.fr,.bool c.sl,.slice sa c.xs.length sc] 47):=⟨_,rfl⟩
 have nb:Below w.heap.size w v:=by rw [hv];go_grown
 have L0:Lay v w.heap.size [.int .i64 now,.slice aT T.length cT,.slice aO nO cO,.slice aP nP cP,.slice aL nL cL,.slice aK nK cK,.int .i64 nx]:=by rw [hv];exact (zbs _ _ rfl).alloc _ _
 have L1:Lay v (w.heap.size+1) [.int .i64 c.id,.int .i64 c.lf,.int .i64 c.pl,.int .i64 c.k,.int .i64 c.wn,.int .i64 c.th,.int .i64 c.fl,.int .i64 c.ac,.int .i64 c.la,.int .i64 c.og,.int .i64 c.st,.int .i64 c.fr,.bool c.sl,.slice sa c.xs.length sc]:=by rw [hv];exact zbs _ _ (by simp)
 obtain ⟨ve0,ve1,ve2,ve3,ve4,ve5,ve6⟩:=Lay.c7 (b:=w.heap.size) L0
 obtain ⟨vc0,vc1,vc2,vc3,vc4,vc5,vc6,vc7,vc8,vc9,vc10,vc11,vc12,vc13⟩:=Lay.c14 (b:=w.heap.size+1) L1
 cases h1:zmh T c.lf
 ·have HC:Hid (zgk T nL c=false):=(show zgk T nL c=_ by unfold zgk;simp only [h1,Bool.true_and,Bool.false_and,Bool.and_false])
  go_enter Tryz.func67,Tryz.ntmps67
  go_upto_region 1 with (fail)
  rw [←hv]
  clear hv
  go_wp2_with (first|(go_at_call 104;refine (zd3 h1 (hT.here nb) hl).mono ?_;rintro e u1 ⟨rfl,hb1⟩;have b1:=zaa nb hb1;have M0:=L0.next hb1;have M1:=L1.next hb1;clear ve0 ve1 ve2 ve3 ve4 ve5 ve6 vc0 vc1 vc2 vc3 vc4 vc5 vc6 vc7 vc8 vc9 vc10 vc11 vc12 vc13;obtain ⟨u1e0,u1e1,u1e2,u1e3,u1e4,u1e5,u1e6⟩:=Lay.c7 (b:=w.heap.size) M0;obtain ⟨u1c0,u1c1,u1c2,u1c3,u1c4,u1c5,u1c6,u1c7,u1c8,u1c9,u1c10,u1c11,u1c12,u1c13⟩:=Lay.c14 (b:=w.heap.size+1) M1))
  go_ret
  exact ⟨zeg HC.out.symm,b1⟩
 cases h2:inQ 0 c.pl ((nL:Int)-1)
 ·have HC:Hid (zgk T nL c=false):=(show zgk T nL c=_ by unfold zgk;simp only [h1,h2,Bool.true_and,Bool.false_and,Bool.and_false])
  go_enter Tryz.func67,Tryz.ntmps67
  go_upto_region 1 with (fail)
  rw [←hv]
  clear hv
  go_wp2_with (first|(go_at_call 105;refine (zd4 h2 hL).mono ?_;rintro e u2 ⟨rfl,hb2⟩;have b2:=zaa b1 hb2;have N0:=M0.next hb2;have N1:=M1.next hb2;clear u1e0 u1e1 u1e2 u1e3 u1e4 u1e5 u1e6 u1c0 u1c1 u1c2 u1c3 u1c4 u1c5 u1c6 u1c7 u1c8 u1c9 u1c10 u1c11 u1c12 u1c13;obtain ⟨u2e0,u2e1,u2e2,u2e3,u2e4,u2e5,u2e6⟩:=Lay.c7 (b:=w.heap.size) N0;obtain ⟨u2c0,u2c1,u2c2,u2c3,u2c4,u2c5,u2c6,u2c7,u2c8,u2c9,u2c10,u2c11,u2c12,u2c13⟩:=Lay.c14 (b:=w.heap.size+1) N1)|(go_at_call 104;refine (zd3 h1 (hT.here nb) hl).mono ?_;rintro e u1 ⟨rfl,hb1⟩;have b1:=zaa nb hb1;have M0:=L0.next hb1;have M1:=L1.next hb1;clear ve0 ve1 ve2 ve3 ve4 ve5 ve6 vc0 vc1 vc2 vc3 vc4 vc5 vc6 vc7 vc8 vc9 vc10 vc11 vc12 vc13;obtain ⟨u1e0,u1e1,u1e2,u1e3,u1e4,u1e5,u1e6⟩:=Lay.c7 (b:=w.heap.size) M0;obtain ⟨u1c0,u1c1,u1c2,u1c3,u1c4,u1c5,u1c6,u1c7,u1c8,u1c9,u1c10,u1c11,u1c12,u1c13⟩:=Lay.c14 (b:=w.heap.size+1) M1))
  go_ret
  exact ⟨zeg HC.out.symm,b2⟩
 cases h3:ccB c.k c.wn c.th c.fl c.ac c.la c.og c.st c.fr
 ·have HC:Hid (zgk T nL c=false):=(show zgk T nL c=_ by unfold zgk;simp only [h1,h2,h3,Bool.true_and,Bool.false_and,Bool.and_false])
  go_enter Tryz.func67,Tryz.ntmps67
  go_upto_region 1 with (fail)
  rw [←hv]
  clear hv
  go_wp2_with (first|(go_at_call 127;refine (zez h3 _ _).mono ?_;rintro e u3 ⟨rfl,e3⟩;have hb3:Below u2.heap.size u2 u3:=(by rw [e3];exact zac _ _);clear e3;have b3:=zaa b2 hb3;have O0:=N0.next hb3;have O1:=N1.next hb3;clear u2e0 u2e1 u2e2 u2e3 u2e4 u2e5 u2e6 u2c0 u2c1 u2c2 u2c3 u2c4 u2c5 u2c6 u2c7 u2c8 u2c9 u2c10 u2c11 u2c12 u2c13;obtain ⟨u3e0,u3e1,u3e2,u3e3,u3e4,u3e5,u3e6⟩:=Lay.c7 (b:=w.heap.size) O0;obtain ⟨u3c0,u3c1,u3c2,u3c3,u3c4,u3c5,u3c6,u3c7,u3c8,u3c9,u3c10,u3c11,u3c12,u3c13⟩:=Lay.c14 (b:=w.heap.size+1) O1)|(go_at_call 105;refine (zd4 h2 hL).mono ?_;rintro e u2 ⟨rfl,hb2⟩;have b2:=zaa b1 hb2;have N0:=M0.next hb2;have N1:=M1.next hb2;clear u1e0 u1e1 u1e2 u1e3 u1e4 u1e5 u1e6 u1c0 u1c1 u1c2 u1c3 u1c4 u1c5 u1c6 u1c7 u1c8 u1c9 u1c10 u1c11 u1c12 u1c13;obtain ⟨u2e0,u2e1,u2e2,u2e3,u2e4,u2e5,u2e6⟩:=Lay.c7 (b:=w.heap.size) N0;obtain ⟨u2c0,u2c1,u2c2,u2c3,u2c4,u2c5,u2c6,u2c7,u2c8,u2c9,u2c10,u2c11,u2c12,u2c13⟩:=Lay.c14 (b:=w.heap.size+1) N1)|(go_at_call 104;refine (zd3 h1 (hT.here nb) hl).mono ?_;rintro e u1 ⟨rfl,hb1⟩;have b1:=zaa nb hb1;have M0:=L0.next hb1;have M1:=L1.next hb1;clear ve0 ve1 ve2 ve3 ve4 ve5 ve6 vc0 vc1 vc2 vc3 vc4 vc5 vc6 vc7 vc8 vc9 vc10 vc11 vc12 vc13;obtain ⟨u1e0,u1e1,u1e2,u1e3,u1e4,u1e5,u1e6⟩:=Lay.c7 (b:=w.heap.size) M0;obtain ⟨u1c0,u1c1,u1c2,u1c3,u1c4,u1c5,u1c6,u1c7,u1c8,u1c9,u1c10,u1c11,u1c12,u1c13⟩:=Lay.c14 (b:=w.heap.size+1) M1))
  go_ret
  exact ⟨zeg HC.out.symm,b3⟩
 cases h4:zlq c.k
 ·have HC:Hid (zgk T nL c=false):=(show zgk T nL c=_ by unfold zgk;simp only [h1,h2,h3,h4,Bool.true_and,Bool.false_and,Bool.and_false])
  go_enter Tryz.func67,Tryz.ntmps67
  go_upto_region 1 with (fail)
  rw [←hv]
  clear hv
  go_wp2_with (first|(go_at_call 80;refine (zn3 h4 _).mono ?_;rintro e w4 ⟨rfl,e4⟩;replace e4:=e4.symm;subst e4)|(go_at_call 127;refine (zez h3 _ _).mono ?_;rintro e u3 ⟨rfl,e3⟩;have hb3:Below u2.heap.size u2 u3:=(by rw [e3];exact zac _ _);clear e3;have b3:=zaa b2 hb3;have O0:=N0.next hb3;have O1:=N1.next hb3;clear u2e0 u2e1 u2e2 u2e3 u2e4 u2e5 u2e6 u2c0 u2c1 u2c2 u2c3 u2c4 u2c5 u2c6 u2c7 u2c8 u2c9 u2c10 u2c11 u2c12 u2c13;obtain ⟨u3e0,u3e1,u3e2,u3e3,u3e4,u3e5,u3e6⟩:=Lay.c7 (b:=w.heap.size) O0;obtain ⟨u3c0,u3c1,u3c2,u3c3,u3c4,u3c5,u3c6,u3c7,u3c8,u3c9,u3c10,u3c11,u3c12,u3c13⟩:=Lay.c14 (b:=w.heap.size+1) O1)|(go_at_call 105;refine (zd4 h2 hL).mono ?_;rintro e u2 ⟨rfl,hb2⟩;have b2:=zaa b1 hb2;have N0:=M0.next hb2;have N1:=M1.next hb2;clear u1e0 u1e1 u1e2 u1e3 u1e4 u1e5 u1e6 u1c0 u1c1 u1c2 u1c3 u1c4 u1c5 u1c6 u1c7 u1c8 u1c9 u1c10 u1c11 u1c12 u1c13;obtain ⟨u2e0,u2e1,u2e2,u2e3,u2e4,u2e5,u2e6⟩:=Lay.c7 (b:=w.heap.size) N0;obtain ⟨u2c0,u2c1,u2c2,u2c3,u2c4,u2c5,u2c6,u2c7,u2c8,u2c9,u2c10,u2c11,u2c12,u2c13⟩:=Lay.c14 (b:=w.heap.size+1) N1)|(go_at_call 104;refine (zd3 h1 (hT.here nb) hl).mono ?_;rintro e u1 ⟨rfl,hb1⟩;have b1:=zaa nb hb1;have M0:=L0.next hb1;have M1:=L1.next hb1;clear ve0 ve1 ve2 ve3 ve4 ve5 ve6 vc0 vc1 vc2 vc3 vc4 vc5 vc6 vc7 vc8 vc9 vc10 vc11 vc12 vc13;obtain ⟨u1e0,u1e1,u1e2,u1e3,u1e4,u1e5,u1e6⟩:=Lay.c7 (b:=w.heap.size) M0;obtain ⟨u1c0,u1c1,u1c2,u1c3,u1c4,u1c5,u1c6,u1c7,u1c8,u1c9,u1c10,u1c11,u1c12,u1c13⟩:=Lay.c14 (b:=w.heap.size+1) M1))
  go_ret
  exact ⟨zeg HC.out.symm,b3⟩
 by_cases h5:(c.xs.length:Int)≤100
 rotate_left
 ·have HC:Hid (zgk T nL c=false):=(show zgk T nL c=_ by unfold zgk;simp only [h1,h2,h3,h4,decide_eq_false (show ¬c.xs.length≤100 by omega),Bool.true_and,Bool.false_and,Bool.and_false])
  go_enter Tryz.func67,Tryz.ntmps67
  go_upto_region 1 with (fail)
  rw [←hv]
  clear hv
  go_wp2_with (first|(go_at_call 80;refine (zn3 h4 _).mono ?_;rintro e w4 ⟨rfl,e4⟩;replace e4:=e4.symm;subst e4)|(go_at_call 127;refine (zez h3 _ _).mono ?_;rintro e u3 ⟨rfl,e3⟩;have hb3:Below u2.heap.size u2 u3:=(by rw [e3];exact zac _ _);clear e3;have b3:=zaa b2 hb3;have O0:=N0.next hb3;have O1:=N1.next hb3;clear u2e0 u2e1 u2e2 u2e3 u2e4 u2e5 u2e6 u2c0 u2c1 u2c2 u2c3 u2c4 u2c5 u2c6 u2c7 u2c8 u2c9 u2c10 u2c11 u2c12 u2c13;obtain ⟨u3e0,u3e1,u3e2,u3e3,u3e4,u3e5,u3e6⟩:=Lay.c7 (b:=w.heap.size) O0;obtain ⟨u3c0,u3c1,u3c2,u3c3,u3c4,u3c5,u3c6,u3c7,u3c8,u3c9,u3c10,u3c11,u3c12,u3c13⟩:=Lay.c14 (b:=w.heap.size+1) O1)|(go_at_call 105;refine (zd4 h2 hL).mono ?_;rintro e u2 ⟨rfl,hb2⟩;have b2:=zaa b1 hb2;have N0:=M0.next hb2;have N1:=M1.next hb2;clear u1e0 u1e1 u1e2 u1e3 u1e4 u1e5 u1e6 u1c0 u1c1 u1c2 u1c3 u1c4 u1c5 u1c6 u1c7 u1c8 u1c9 u1c10 u1c11 u1c12 u1c13;obtain ⟨u2e0,u2e1,u2e2,u2e3,u2e4,u2e5,u2e6⟩:=Lay.c7 (b:=w.heap.size) N0;obtain ⟨u2c0,u2c1,u2c2,u2c3,u2c4,u2c5,u2c6,u2c7,u2c8,u2c9,u2c10,u2c11,u2c12,u2c13⟩:=Lay.c14 (b:=w.heap.size+1) N1)|(go_at_call 104;refine (zd3 h1 (hT.here nb) hl).mono ?_;rintro e u1 ⟨rfl,hb1⟩;have b1:=zaa nb hb1;have M0:=L0.next hb1;have M1:=L1.next hb1;clear ve0 ve1 ve2 ve3 ve4 ve5 ve6 vc0 vc1 vc2 vc3 vc4 vc5 vc6 vc7 vc8 vc9 vc10 vc11 vc12 vc13;obtain ⟨u1e0,u1e1,u1e2,u1e3,u1e4,u1e5,u1e6⟩:=Lay.c7 (b:=w.heap.size) M0;obtain ⟨u1c0,u1c1,u1c2,u1c3,u1c4,u1c5,u1c6,u1c7,u1c8,u1c9,u1c10,u1c11,u1c12,u1c13⟩:=Lay.c14 (b:=w.heap.size+1) M1))
  go_ret
  exact ⟨zeg HC.out.symm,b3⟩
 have hm':c.xs.length≤4611686018427387904:=by omega
 cases h6:c.xs.all zfo
 ·have HC:Hid (zgk T nL c=false):=(show zgk T nL c=_ by unfold zgk;simp only [h1,h2,h3,h4,decide_eq_true (show c.xs.length≤100 by omega),h6,Bool.true_and,Bool.false_and,Bool.and_false])
  go_enter Tryz.func67,Tryz.ntmps67
  go_upto_region 1 with (fail)
  rw [←hv]
  clear hv
  go_wp2_with (first|(go_at_call 128;refine (ztu sc h6 (hs.here b3) hm').mono ?_;rintro e u6 ⟨rfl,hb6⟩;have b6:=zaa b3 hb6)|(go_at_call 80;refine (zn3 h4 _).mono ?_;rintro e w4 ⟨rfl,e4⟩;replace e4:=e4.symm;subst e4)|(go_at_call 127;refine (zez h3 _ _).mono ?_;rintro e u3 ⟨rfl,e3⟩;have hb3:Below u2.heap.size u2 u3:=(by rw [e3];exact zac _ _);clear e3;have b3:=zaa b2 hb3;have O0:=N0.next hb3;have O1:=N1.next hb3;clear u2e0 u2e1 u2e2 u2e3 u2e4 u2e5 u2e6 u2c0 u2c1 u2c2 u2c3 u2c4 u2c5 u2c6 u2c7 u2c8 u2c9 u2c10 u2c11 u2c12 u2c13;obtain ⟨u3e0,u3e1,u3e2,u3e3,u3e4,u3e5,u3e6⟩:=Lay.c7 (b:=w.heap.size) O0;obtain ⟨u3c0,u3c1,u3c2,u3c3,u3c4,u3c5,u3c6,u3c7,u3c8,u3c9,u3c10,u3c11,u3c12,u3c13⟩:=Lay.c14 (b:=w.heap.size+1) O1)|(go_at_call 105;refine (zd4 h2 hL).mono ?_;rintro e u2 ⟨rfl,hb2⟩;have b2:=zaa b1 hb2;have N0:=M0.next hb2;have N1:=M1.next hb2;clear u1e0 u1e1 u1e2 u1e3 u1e4 u1e5 u1e6 u1c0 u1c1 u1c2 u1c3 u1c4 u1c5 u1c6 u1c7 u1c8 u1c9 u1c10 u1c11 u1c12 u1c13;obtain ⟨u2e0,u2e1,u2e2,u2e3,u2e4,u2e5,u2e6⟩:=Lay.c7 (b:=w.heap.size) N0;obtain ⟨u2c0,u2c1,u2c2,u2c3,u2c4,u2c5,u2c6,u2c7,u2c8,u2c9,u2c10,u2c11,u2c12,u2c13⟩:=Lay.c14 (b:=w.heap.size+1) N1)|(go_at_call 104;refine (zd3 h1 (hT.here nb) hl).mono ?_;rintro e u1 ⟨rfl,hb1⟩;have b1:=zaa nb hb1;have M0:=L0.next hb1;have M1:=L1.next hb1;clear ve0 ve1 ve2 ve3 ve4 ve5 ve6 vc0 vc1 vc2 vc3 vc4 vc5 vc6 vc7 vc8 vc9 vc10 vc11 vc12 vc13;obtain ⟨u1e0,u1e1,u1e2,u1e3,u1e4,u1e5,u1e6⟩:=Lay.c7 (b:=w.heap.size) M0;obtain ⟨u1c0,u1c1,u1c2,u1c3,u1c4,u1c5,u1c6,u1c7,u1c8,u1c9,u1c10,u1c11,u1c12,u1c13⟩:=Lay.c14 (b:=w.heap.size+1) M1))
  go_ret
  exact ⟨zeg HC.out.symm,b6⟩
 ·have HC:Hid (zgk T nL c=true):=(show zgk T nL c=_ by unfold zgk;simp only [h1,h2,h3,h4,decide_eq_true (show c.xs.length≤100 by omega),h6,Bool.true_and,Bool.false_and,Bool.and_false])
  go_enter Tryz.func67,Tryz.ntmps67
  go_upto_region 1 with (fail)
  rw [←hv]
  clear hv
  go_wp2_with (first|(go_at_call 128;refine (ztu sc h6 (hs.here b3) hm').mono ?_;rintro e u6 ⟨rfl,hb6⟩;have b6:=zaa b3 hb6)|(go_at_call 80;refine (zn3 h4 _).mono ?_;rintro e w4 ⟨rfl,e4⟩;replace e4:=e4.symm;subst e4)|(go_at_call 127;refine (zez h3 _ _).mono ?_;rintro e u3 ⟨rfl,e3⟩;have hb3:Below u2.heap.size u2 u3:=(by rw [e3];exact zac _ _);clear e3;have b3:=zaa b2 hb3;have O0:=N0.next hb3;have O1:=N1.next hb3;clear u2e0 u2e1 u2e2 u2e3 u2e4 u2e5 u2e6 u2c0 u2c1 u2c2 u2c3 u2c4 u2c5 u2c6 u2c7 u2c8 u2c9 u2c10 u2c11 u2c12 u2c13;obtain ⟨u3e0,u3e1,u3e2,u3e3,u3e4,u3e5,u3e6⟩:=Lay.c7 (b:=w.heap.size) O0;obtain ⟨u3c0,u3c1,u3c2,u3c3,u3c4,u3c5,u3c6,u3c7,u3c8,u3c9,u3c10,u3c11,u3c12,u3c13⟩:=Lay.c14 (b:=w.heap.size+1) O1)|(go_at_call 105;refine (zd4 h2 hL).mono ?_;rintro e u2 ⟨rfl,hb2⟩;have b2:=zaa b1 hb2;have N0:=M0.next hb2;have N1:=M1.next hb2;clear u1e0 u1e1 u1e2 u1e3 u1e4 u1e5 u1e6 u1c0 u1c1 u1c2 u1c3 u1c4 u1c5 u1c6 u1c7 u1c8 u1c9 u1c10 u1c11 u1c12 u1c13;obtain ⟨u2e0,u2e1,u2e2,u2e3,u2e4,u2e5,u2e6⟩:=Lay.c7 (b:=w.heap.size) N0;obtain ⟨u2c0,u2c1,u2c2,u2c3,u2c4,u2c5,u2c6,u2c7,u2c8,u2c9,u2c10,u2c11,u2c12,u2c13⟩:=Lay.c14 (b:=w.heap.size+1) N1)|(go_at_call 104;refine (zd3 h1 (hT.here nb) hl).mono ?_;rintro e u1 ⟨rfl,hb1⟩;have b1:=zaa nb hb1;have M0:=L0.next hb1;have M1:=L1.next hb1;clear ve0 ve1 ve2 ve3 ve4 ve5 ve6 vc0 vc1 vc2 vc3 vc4 vc5 vc6 vc7 vc8 vc9 vc10 vc11 vc12 vc13;obtain ⟨u1e0,u1e1,u1e2,u1e3,u1e4,u1e5,u1e6⟩:=Lay.c7 (b:=w.heap.size) M0;obtain ⟨u1c0,u1c1,u1c2,u1c3,u1c4,u1c5,u1c6,u1c7,u1c8,u1c9,u1c10,u1c11,u1c12,u1c13⟩:=Lay.c14 (b:=w.heap.size+1) M1))
  go_ret
  exact ⟨zeg HC.out.symm,b6⟩
theorem zu2 {w:World} (now nx:Int) {eb:Nat} {sa:Option Addr} {sc:Nat} {aT aO aP aL aK:Option Addr} {cT nO cO nP cP nL cL nK cK:Nat} {T:List Q4} (c:Kn) (hE:Lay w eb [.int .i64 now,.slice aT T.length cT,.slice aO nO cO,.slice aP nP cP,.slice aL nL cL,.slice aK nK cK,.int .i64 nx]) (hT:Quad w.heap.size w aT T) (hl:T.length≤30) (hL:nL≤1048576) (hs:ISmp w.heap.size w sa c.xs) (hm:c.xs.length≤maxLen) :
 Calls Tryz.prog 66 #[.agg #[.int .i64 c.id,.int .i64 c.lf,.int .i64 c.pl,.int .i64 c.k,.int .i64 c.wn,.int .i64 c.th,.int .i64 c.fl,.int .i64 c.ac,.int .i64 c.la,.int .i64 c.og,.int .i64 c.st,.int .i64 c.fr,.bool c.sl,.slice sa c.xs.length sc],.pointer (some ⟨eb,0,none⟩)] w fun e w'=>e=.returned (.bool (!zgk T nL c))∧Below w.heap.size w w':=by
 obtain ⟨v,hv,L1,nb⟩:=ze8 w 47 [.int .i64 c.id,.int .i64 c.lf,.int .i64 c.pl,.int .i64 c.k,.int .i64 c.wn,.int .i64 c.th,.int .i64 c.fl,.int .i64 c.ac,.int .i64 c.la,.int .i64 c.og,.int .i64 c.st,.int .i64 c.fr,.bool c.sl,.slice sa c.xs.length sc]
 have L0:=hE.next nb
 obtain ⟨ve0,ve1,ve2,ve3,ve4,ve5,ve6⟩:=Lay.c7 (b:=eb) L0
 obtain ⟨vc0,vc1,vc2,vc3,vc4,vc5,vc6,vc7,vc8,vc9,vc10,vc11,vc12,vc13⟩:=Lay.c14 (b:=w.heap.size) L1
 go_enter Tryz.func66,Tryz.ntmps66
 go_upto_region 1 with (fail)
 rw [←hv]
 clear hv
 go_wp2_with (first|(go_at_call 67;refine (zyy now nx c (hT.here nb) hl hL (hs.here nb) hm).mono ?_;rintro e w3 ⟨rfl,hb3⟩))
 go_ret
 exact ⟨rfl,zaa nb hb3⟩
def zyz (T:List Q4) (nL:Nat) (K:List Kn) (w:World) (e:Ending) (w':World):Prop:=∃z:Int,e=.returned (.int .i64 z)∧decide (0≤z) = !K.all (zgk T nL)∧Below w.heap.size w w'
theorem zy2 {w:World} (now nx:Int) {eb:Nat} {a:Option Addr} (cap:Nat) {aT aO aP aL aK:Option Addr} {cT nO cO nP cP nL cL nK cK:Nat} {T:List Q4} {K:List Kn} (hE:Lay w eb [.int .i64 now,.slice aT T.length cT,.slice aO nO cO,.slice aP nP cP,.slice aL nL cL,.slice aK nK cK,.int .i64 nx]) (hT:Quad w.heap.size w aT T) (hl:T.length≤30) (hL:nL≤1048576) (h:Kls w.heap.size w a K) (hk:K.length≤40) (sK:∀c ∈ K,c.xs.length≤maxLen) :
 Calls Tryz.prog 126 #[.slice a K.length cap,.func (.func 66) #[] #[.pointer (some ⟨eb,0,none⟩)]] w (zyz T nL K w):=by
 have eg:∀args w,(callFunc 66 args).run Tryz.prog w=.ok (.enter 66 args) w:=enters_of Tryz.func66 (by kernel_rfl) rfl
 have hl':(K.length:Int)≤40:=by omega
 go_enter Tryz.func126,Tryz.ntmps126
 go_wp2
 go_loopw [8] (fun i wr=>∃k:Nat,i=.int .i64 k∧k≤K.length∧Hid (∀m (h:m<K.length),m<k→zgk T nL K[m]=true)∧Below w.heap.size w wr) (fun i _=>K.length-(intOf i).toNat)
 case atStart=>exact ⟨0,rfl,by omega,(fun m h k=>by omega),Below.refl _ _⟩
 case round =>
  obtain ⟨k,rfl,hk,HA,hbw⟩:=hrel
  by_cases hlt:k<K.length
  ·have hlt':(k:Int)<(K.length:Int):=by omega
   obtain ⟨b,off,sa,sc,hak,hbl,d0,d13,sm⟩:=h.at hbw k hlt
   subst hak
   obtain ⟨c,hc⟩:∃c,K[k]=c:=⟨_,rfl⟩
   have HX:Hid (K[k]=c):=hc
   have hxs:c.xs.length≤maxLen:=by rw [←hc];exact sK _ (List.getElem_mem hlt)
   rw [hc] at d0 d13 sm
   clear hc
   have e0:wr.cell? ⟨b,off+k*14,none⟩=some (.int .i64 c.id):=d0 0 _ rfl
   have e1:wr.cell? ⟨b,off+k*14+1,none⟩=some (.int .i64 c.lf):=d0 1 _ rfl
   have e2:wr.cell? ⟨b,off+k*14+2,none⟩=some (.int .i64 c.pl):=d0 2 _ rfl
   have e3:wr.cell? ⟨b,off+k*14+3,none⟩=some (.int .i64 c.k):=d0 3 _ rfl
   have e4:wr.cell? ⟨b,off+k*14+4,none⟩=some (.int .i64 c.wn):=d0 4 _ rfl
   have e5:wr.cell? ⟨b,off+k*14+5,none⟩=some (.int .i64 c.th):=d0 5 _ rfl
   have e6:wr.cell? ⟨b,off+k*14+6,none⟩=some (.int .i64 c.fl):=d0 6 _ rfl
   have e7:wr.cell? ⟨b,off+k*14+7,none⟩=some (.int .i64 c.ac):=d0 7 _ rfl
   have e8:wr.cell? ⟨b,off+k*14+8,none⟩=some (.int .i64 c.la):=d0 8 _ rfl
   have e9:wr.cell? ⟨b,off+k*14+9,none⟩=some (.int .i64 c.og):=d0 9 _ rfl
   have e10:wr.cell? ⟨b,off+k*14+10,none⟩=some (.int .i64 c.st):=d0 10 _ rfl
   have e11:wr.cell? ⟨b,off+k*14+11,none⟩=some (.int .i64 c.fr):=d0 11 _ rfl
   have e12:wr.cell? ⟨b,off+k*14+12,none⟩=some (.bool c.sl):=d0 12 _ rfl
   have e13:wr.cell? ⟨b,off+k*14+13,none⟩=some (.slice sa c.xs.length sc):=d13
   have hd:=zu2 (w:=wr) (sa:=sa) (sc:=sc) now nx c (hE.next hbw) (hT.here hbw) hl hL (sm.up hbw.size) hxs
   cases hp:zgk T nL c
   ·rw [hp] at hd
    have HB:Hid (K.all (zgk T nL)=false):=by
     show K.all (zgk T nL)=false
     rw [List.all_eq_false]
     exact ⟨K[k],List.getElem_mem hlt,by rw [HX.out,hp];simp⟩
    go_wp2_with (first|(go_at_call 66;refine hd.mono ?_;rintro e w3 ⟨rfl,hb3⟩))
    go_ret
    exact ⟨k,rfl,by rw [HB.out];exact decide_eq_true (by omega),zad hbw hb3⟩
   ·rw [hp] at hd
    go_wp2_with (first|(go_at_call 66;refine hd.mono ?_;rintro e w3 ⟨rfl,hb3⟩))
    go_roundw
    case rel =>
     refine ⟨k+1,by go_num,by omega,fun m hm hk=>?_,zad hbw hb3⟩
     by_cases e:m=k
     ·subst e
      rw [HX.out]
      exact hp
     ·exact HA.out m hm (by omega)
    case measure=>simp [intOf]<;>omega
  ·have e:k=K.length:=by omega
   subst e
   have HB:Hid (K.all (zgk T nL)=true):=by
    show K.all (zgk T nL)=true
    rw [List.all_eq_true]
    intro x hx
    obtain ⟨i,hi,rfl⟩:=List.mem_iff_getElem.1 hx
    exact HA.out i hi hi
   go_wp2
   go_ret
   exact ⟨-1,rfl,by rw [HB.out];rfl,hbw⟩
theorem zw8 {w:World} {now nx:Int} {eb:Nat} {a:Option Addr} (cap:Nat) {aT aO aP aL aK:Option Addr} {cT nO cO nP cP nL cL nK cK:Nat} {T:List Q4} {K:List Kn} {f:Bool} (hf:K.all (zgk T nL)=f) (hE:Lay w eb [.int .i64 now,.slice aT T.length cT,.slice aO nO cO,.slice aP nP cP,.slice aL nL cL,.slice aK nK cK,.int .i64 nx]) (hT:Quad w.heap.size w aT T) (hl:T.length≤30) (hL:nL≤1048576) (h:Kls w.heap.size w a K) (hk:K.length≤40) (sK:∀c ∈ K,c.xs.length≤maxLen) :
 Calls Tryz.prog 65 #[.slice a K.length cap,.func (.func 66) #[] #[.pointer (some ⟨eb,0,none⟩)]] w fun e w'=>e=.returned (.bool (!f))∧Below w.heap.size w w':=by
 subst hf
 go_enter Tryz.func65,Tryz.ntmps65
 go_wp2_with (first|(go_at_call 126;refine (zy2 now nx cap hE hT hl hL h hk sK).mono ?_;rintro e w2 ⟨z,rfl,hzz,hb2⟩;have HZ:Hid (decide (0≤z) = !K.all (zgk T nL)):=hzz;clear hzz))
 go_ret
 exact ⟨zeg HZ.out,hb2⟩
theorem zw9 (k:Int) (w:World):Calls Tryz.prog 51 #[.int .i64 k] w fun e w'=>e=.returned (.bool (zlq k))∧w'=w:=by
 by_cases h1:k=1
 ·subst h1
  go_enter Tryz.func51,Tryz.ntmps51
  go_wp2
  go_ret
  exact ⟨rfl,rfl⟩
 by_cases h2:k=2
 ·subst h2
  go_enter Tryz.func51,Tryz.ntmps51
  go_wp2
  go_ret
  exact ⟨rfl,rfl⟩
 have HK:Hid (zlq k=false):=by show zlq k=false;unfold zlq;rw [decide_eq_false h1,decide_eq_false h2];rfl
 have h1':(k == 1)=false:=by simp [h1]
 have h2':(k == 2)=false:=by simp [h2]
 clear h1 h2
 go_enter Tryz.func51,Tryz.ntmps51
 go_wp2
 go_ret
 exact ⟨zeg HK.out.symm,rfl⟩
theorem ztv {k:Int} {f:Bool} (h:zlq k=f) (w:World):Calls Tryz.prog 51 #[.int .i64 k] w fun e w'=>e=.returned (.bool f)∧w'=w:=by subst h;exact zw9 k w
end Go.Proofs.YthiojkjcmhojoaaGreat
