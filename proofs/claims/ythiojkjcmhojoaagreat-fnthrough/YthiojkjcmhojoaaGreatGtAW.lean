import Derived.Test.YthiojkjcmhojoaaGreatGtAI
import Derived.Test.YthiojkjcmhojoaaGreatGtAJ
import Derived.Test.YthiojkjcmhojoaaGreatGtAV
namespace Go.Proofs.YthiojkjcmhojoaaGreat
set_option maxHeartbeats 16000000
open Go.ChangeShapes Go.WideShapes Go.ChangeAt Go.RowKit
set_option maxRecDepth 100000
set_option linter.all false
abbrev zea(aT:Option Addr)(nT cT:Nat)(aO:Option Addr)(nO cO:Nat)(aP:Option Addr)(nP cP:Nat):Value:=.agg #[.slice aT nT cT,.slice aO nO cO,.slice aP nP cP]
section
variable {H:Type} {enc:TypeId × Value->H} {P:Program} {w:World} {sp:Nat->Bool} {held:Bool}
end
abbrev zcf(now:Int)(aT:Option Addr)(nT cT:Nat)(aO:Option Addr)(nO cO:Nat)(aP:Option Addr)(nP cP:Nat)(aL:Option Addr)(nL cL:Nat)(aK:Option Addr)(nK cK:Nat)(nx:Int):Value:=.agg #[.int .i64 now,.slice aT nT cT,.slice aO nO cO,.slice aP nP cP,.slice aL nL cL,.slice aK nK cK,.int .i64 nx]
theorem zi8{w:World}{g:Nat}{u0 u1 u2:Value}(c0 c1 c2:Value)(h0:w.cell? ⟨g,0,none⟩=some u0)(h1:w.cell? ⟨g,1,none⟩=some u1)(h2:w.cell? ⟨g,2,none⟩=some u2):
 ∃w4,w4=(((w.setCell ⟨g,0,none⟩ c0).setCell ⟨g,1,none⟩ c1).setCell ⟨g,2,none⟩ c2)/\(∀j v,[c0,c1,c2][j]?=some v->w4.cell? ⟨g,j,none⟩=some v)/\(∀k o:Nat,w4.frozen? ⟨k,o,none⟩=w.frozen? ⟨k,o,none⟩)/\w4.heap.size=w.heap.size/\(∀B,B<=g->Below B w w4)/\Only g w w4 :=
 ⟨_,rfl,zxe c0 c1 c2 h0 h1 h2,fun k o=>by simp,by simp,fun B hB=>Below.setCell (Below.setCell (Below.setCell (brf _ _) (p:=⟨g,0,none⟩) hB _) (p:=⟨g,1,none⟩) hB _) (p:=⟨g,2,none⟩) hB _,Only.setCell (Only.setCell (Only.setCell (Only.refl _ _) (p:=⟨g,0,none⟩) rfl _) (p:=⟨g,1,none⟩) rfl _) (p:=⟨g,2,none⟩) rfl _⟩
structure Qc (w:World) (b:Nat) (wd fl:Int) (v:Value):Prop where
 z:b<w.heap.size
 c0:w.cell? ⟨b,0,none⟩=some (.int .i64 wd)
 c1:w.cell? ⟨b,1,none⟩=some (.int .i64 fl)
 c2:w.cell? ⟨b,2,none⟩=some v
theorem Qc.onlyO{w w':World}{b:Nat}{wd fl:Int}{v:Value}{o:Option Nat}(d:Qc w b wd fl v)(h:OnlyO o w w')(hb:o≠some b):Qc w' b wd fl v :=
 ⟨nlt d.z h.size,(h.cell (by exact d.z) (by exact hb)).trans d.c0,(h.cell (by exact d.z) (by exact hb)).trans d.c1,(h.cell (by exact d.z) (by exact hb)).trans d.c2⟩
theorem IFill.only{w w':World}{g n k b:Nat}{xs:List Int}(f:IFill w g n xs k)(o:Only b w w')(hg:g<w.heap.size)(hb:g≠b):IFill w' g n xs k :=
 ⟨fun j hj=>⟨by obtain⟨z,hz⟩:=(f.any j hj).1;exact⟨z,(o.cell (by exact hg) (by exact hb)).trans hz⟩,(o.frozen (by exact hg) (by exact hb)).trans (f.any j hj).2⟩,fun i hi hk=>(o.cell (by exact hg) (by exact hb)).trans (f.got i hi hk)⟩
def inQ(lo x hi:Int):Bool:=decide (lo<=x) && decide (x<=hi)
theorem zbz{lo x hi:Int}{f:Bool}(h:inQ lo x hi=f)(w:World):Calls Tryz.prog 48 #[.int .i64 x,.int .i64 lo,.int .i64 hi] w fun e w'=>e=.returned (.bool f)/\w'=w:=by subst h;exact zey lo x hi w
def MemTo(xs:List Int)(k:Nat):Prop:=∀i (h:i<xs.length),i<k->(0<=xs[i]/\xs[i]<=1000000)/\(∀j (hj:j<xs.length),j+1=i->xs[j]<xs[i])
theorem MemTo.zero(xs:List Int):MemTo xs 0:=fun i h hk=>by omega
theorem MemTo.next{xs:List Int}{k:Nat}(h:MemTo xs k)(hk:k<xs.length)(h1:0<=xs[k]/\xs[k]<=1000000)(h2:∀j (hj:j<xs.length),j+1=k->xs[j]<xs[k]):MemTo xs (k+1):=by
 intro i hi hik;by_cases e:i=k
 ·subst e;exact⟨h1,h2⟩
 ·exact h i hi (by omega)
def PlOk(wd fl:Int)(xs:List Int):Prop:=zgr wd=true/\ze7 fl=true/\xs.length<=50/\MemTo xs xs.length
open Classical in
noncomputable def plB(wd fl:Int)(xs:List Int):Bool:=decide (PlOk wd fl xs)
open Classical in
theorem zl6{wd fl:Int}{xs:List Int}(h:plB wd fl xs=true):PlOk wd fl xs:=by unfold plB at h;exact of_decide_eq_true h
open Classical in
theorem zi9{wd fl:Int}{xs:List Int}(h:PlOk wd fl xs):plB wd fl xs=true:=by unfold plB;exact decide_eq_true h
open Classical in
theorem zep{wd fl:Int}{xs:List Int}(h:¬PlOk wd fl xs):plB wd fl xs=false:=by unfold plB;exact decide_eq_false h
theorem ze2{wd fl:Int}{w:World}{a:Option Addr}(cap:Nat){xs:List Int}(smp:Iw w a xs):Calls Tryz.prog 96 #[.agg #[.int .i64 wd,.int .i64 fl,.slice a xs.length cap]] w fun e w'=>e=.returned (.bool (plB wd fl xs))/\Bw w w':=by
 cases h0:zgr wd
 ·rw[zep (fun h=>by have q:=h.1;rw[h0]at q;cases q)];go_enter Tryz.func96,Tryz.ntmps96;go_wp2_with (first| (go_at_call 146;refine same1 (zcm h0 _) ?_));go_ret;exact⟨rfl,by go_grown⟩
 cases h1:ze7 fl
 ·rw[zep (fun h=>by have q:=h.2.1;rw[h1]at q;cases q)];go_enter Tryz.func96,Tryz.ntmps96;go_wp2_with (first| (go_at_call 146;refine same1 (zcm h0 _) ?_)| (go_at_call 122;refine same1 (zbj h1 _) ?_));go_ret;exact⟨rfl,by go_grown⟩
 by_cases h2:(50:Int)<(xs.length:Int)
 ·rw[zep (fun h=>by have:=h.2.2.1;omega)];go_enter Tryz.func96,Tryz.ntmps96;go_wp2_with (first| (go_at_call 146;refine same1 (zcm h0 _) ?_)| (go_at_call 122;refine same1 (zbj h1 _) ?_));go_ret;exact⟨rfl,by go_grown⟩
 have h2':decide ((50:Int)<(xs.length:Int))=false:=decide_eq_false h2;obtain⟨f,hf⟩:∃f,plB wd fl xs=f:=⟨_,rfl⟩;rw[hf];go_enter Tryz.func96,Tryz.ntmps96;go_upto_region 3 with (first| (go_at_call 146;refine same1 (zcm h0 _) ?_)| (go_at_call 122;refine same1 (zbj h1 _) ?_));obtain⟨x,hx⟩:∃x,x=w.alloc (.cells #[.int .i64 wd,.int .i64 fl,.slice a xs.length cap] 50):=⟨_,rfl⟩;rw[<-hx];have hbx:Bw w x:=by rw[hx];go_grown
 have p2:x.cell? ⟨w.heap.size,2,none⟩=some (.slice a xs.length cap):=by rw[hx];go_simp
 have hxz:w.heap.size<x.heap.size:=by rw[hx];simp
 clear hx;go_wp2;go_loopw [3] (fun i wr=>∃(k:Nat),i=.int .i64 k/\k<=xs.length/\MemTo xs k/\Bw x wr) (fun i _=>xs.length-(intOf i).toNat);case atStart=>exact⟨0,rfl,by omega,MemTo.zero xs,brf _ _⟩
 case round =>
  obtain⟨k,rfl,hk,hM,hbr⟩:=hrel;have p2:wr.cell? ⟨w.heap.size,2,none⟩=some (.slice a xs.length cap):=bct hbr hxz p2;have hbx:Bw w wr:=zaa hbx hbr;by_cases hlt:k<xs.length
  ·have hlt':(k:Int)<(xs.length:Int):=(by omega);have hk0:(0:Int)<=(k:Int):=(by omega);cases h3:inQ 0 xs[k] 1000000
   ·obtain rfl:f=false:=(by rw[<-hf];refine zep (fun h=>?_);have:=(h.2.2.2 k hlt hlt).1;unfold inQ at h3;simp[this.1,this.2]at h3);obtain⟨b,off,rfl,hb,c0⟩:=smp.at hbx k hlt;obtain⟨y,hy⟩:∃y,xs[k]=y:=⟨_,rfl⟩;rw[hy]at c0 h3;clear hy hf;go_wp2;go_quiet (first|(go_at_call 48;exact Calls.quiet_of_same (zbz h3 _)));go_wp2;go_ret;exact⟨rfl,zan hbx _⟩
   have h3n:0<=xs[k]/\xs[k]<=1000000:=(by unfold inQ at h3;simp only[bae,decide_eq_true_eq]at h3;exact h3);by_cases hz:k=0
   ·subst hz;have hN:MemTo xs 1:=hM.next hlt h3n (fun j hj e=>by omega);obtain⟨b,off,rfl,hb,c0⟩:=smp.at hbx 0 hlt;have hlt0:(0:Int)<(xs.length:Int):=(by omega);obtain⟨y,hy⟩:∃y,xs[0]=y:=⟨_,rfl⟩;rw[hy]at c0 h3;rw[Nat.add_zero]at c0;clear hy h3n;go_wp2;go_quiet (first|(go_at_call 48;exact Calls.quiet_of_same (zbz h3 _)));go_wp2;go_roundw;case rel=>exact⟨1,by go_num,by omega,hN,zan hbr _⟩
    case measure=>simp[intOf]<;>omega
   obtain⟨l,rfl⟩:∃l,k=l+1:=⟨k-1,by omega⟩;have hl1:IntKind.i64.wrap ((l:Int)+1-1)=(l:Int):=i64w;have hl2:IntKind.i64.wrap (((l+1:Nat):Int)-1)=(l:Int):=i64w;have hl3:(l:Int)<(xs.length:Int):=(by omega);have hl4:(0:Int)<((l+1:Nat):Int):=(by omega);have hl5:(0:Int)<(l:Int)+1:=(by omega);have hl6:IntKind.i64.wrap (l:Int)=(l:Int):=i64w;obtain⟨b,off,rfl,hb,c0⟩:=smp.at hbx (l+1) hlt;obtain⟨b',off',e',hb',c1⟩:=smp.at hbx l (by omega);injection e' with e';injection e' with e1 e2;subst e1 e2;obtain⟨y,hy⟩:∃y,xs[l+1]=y:=⟨_,rfl⟩;obtain⟨z,hzz⟩:∃z,xs[l]=z:=⟨_,rfl⟩;by_cases h4:y<=z
   ·obtain rfl:f=false:=(by rw[<-hf];refine zep (fun h=>?_);have:=(h.2.2.2 (l+1) hlt hlt).2 l (by omega) rfl;rw[hy,hzz]at this;omega);rw[hy]at c0 h3;rw[hzz]at c1;clear hy hzz hf h3n;go_wp2;go_quiet (first|(go_at_call 48;exact Calls.quiet_of_same (zbz h3 _)));go_wp2;go_ret;exact⟨rfl,zan hbx _⟩
   ·have hN:MemTo xs (l+1+1):=hM.next hlt h3n (fun j hj e=>by obtain rfl:j=l:=(by omega);rw[hy,hzz];omega);rw[hy]at c0 h3;rw[hzz]at c1;clear hy hzz h3n;go_wp2;go_quiet (first|(go_at_call 48;exact Calls.quiet_of_same (zbz h3 _)));go_wp2;go_roundw;case rel=>exact⟨l+1+1,by go_num,by omega,hN,zan hbr _⟩
    case measure=>simp[intOf]<;>omega
  ·have e:k=xs.length:=(by omega);subst e;obtain rfl:f=true:=(by rw[<-hf];exact zi9 ⟨h0,h1,by omega,hM⟩);go_wp2;go_ret;exact⟨rfl,hbx⟩
theorem zot(x:Int)(w:World):Calls Tryz.prog 118 #[.int .i64 x] w fun e w'=>e=.returned (.bool (zpo x))/\w'=w:=by go_enter Tryz.func118,Tryz.ntmps118;go_wp2_with (first|(go_at_call 62;refine same1 (zbr _ _ _ _) ?_));go_ret;exact⟨rfl,rfl⟩
theorem zxh(r u l t:Int)(w:World)(hu:0<=u/\u<=1000000000):Calls Tryz.prog 192 #[.agg #[.int .i64 r,.int .i64 u,.int .i64 l,.int .i64 t]] w fun e w'=>e=.returned (.int .i64 (1000000000*u))/\Bw w w':=by
 have e0:IntKind.i64.wrap (u*1000000000)=u*1000000000:=i64w
 rw[Int.mul_comm];go_enter Tryz.func192,Tryz.ntmps192;go_wp2;go_ret;exact⟨rfl,by go_grown⟩
theorem zxi{w w2:World}{b:Nat}{x y z v:Value}(h:w.cell? ⟨b,0,none⟩=some x/\w.cell? ⟨b,1,none⟩=some y/\w.cell? ⟨b,2,none⟩=some z/\w.cell? ⟨b,3,none⟩=some v)(hb:Bw w w2)(h0:b<w.heap.size):
 w2.cell? ⟨b,0,none⟩=some x/\w2.cell? ⟨b,1,none⟩=some y/\w2.cell? ⟨b,2,none⟩=some z/\w2.cell? ⟨b,3,none⟩=some v :=
 ⟨(zbm hb _ _ h0).trans h.1,(zbm hb _ _ h0).trans h.2.1,(zbm hb _ _ h0).trans h.2.2.1,(zbm hb _ _ h0).trans h.2.2.2⟩
theorem zxj(r u l t:Int):zj0 r u l t=(((zdf r && zpo u) && zba t) && zw4 u l):=by unfold zj0;cases zdf r<;>cases zpo u<;>cases zba t<;>cases zw4 u l<;>rfl
theorem zkm(r u l t:Int)(w:World):Calls Tryz.prog 183 #[.agg #[.int .i64 r,.int .i64 u,.int .i64 l,.int .i64 t]] w fun e w'=>e=.returned (.bool (zj0 r u l t))/\Bw w w':=by
 rw[zxj];cases h1:zdf r
 ·show Calls _ _ _ _ fun e w'=>e=.returned (.bool false)/\Bw w w';go_enter Tryz.func183,Tryz.ntmps183;go_wp2;refine wp_region_held_drew (S:=fun w'=>w'.cell? ⟨w.heap.size,0,none⟩=some (.int .i64 r)/\w'.cell? ⟨w.heap.size,1,none⟩=some (.int .i64 u)/\w'.cell? ⟨w.heap.size,2,none⟩=some (.int .i64 l)/\w'.cell? ⟨w.heap.size,3,none⟩=some (.int .i64 t)) (by kernel_rfl) (⟨by go_simp,by go_simp,by go_simp,by go_simp⟩) (fun hS=>?_);refine zac 0 rfl ?_;refine zac 1 rfl ?_;refine zci 2 rfl fun K hK=>?_;go_simp;refine same1 (zgv _ _) ?_;rw[h1];refine hK.out _ _ ‹_› fun _=>?_;(try simp only[nrm]);refine zac 3 rfl ?_;refine zap 4 rfl ?_;refine zap 5 rfl ?_;refine zap 6 rfl ?_;refine zac 7 rfl ?_;refine zac 8 rfl ?_;refine zap 9 rfl ?_;refine zap 10 rfl ?_;refine zap 11 rfl ?_;refine zac 12 rfl ?_;refine zac 13 rfl ?_;refine zap 14 rfl ?_;refine zap 15 rfl ?_;refine zap 16 rfl ?_;refine zap 17 rfl ?_;refine zap 18 rfl ?_;refine zac 19 rfl ?_;refine zac 20 rfl ?_;refine wpAnyH_done (by kernel_rfl) ?_ _;go_wp2;go_ret;exact⟨rfl,by go_grown⟩
 ·cases h2:zpo u
  ·show Calls _ _ _ _ fun e w'=>e=.returned (.bool false)/\Bw w w';go_enter Tryz.func183,Tryz.ntmps183;go_wp2;refine wp_region_held_drew (S:=fun w'=>w'.cell? ⟨w.heap.size,0,none⟩=some (.int .i64 r)/\w'.cell? ⟨w.heap.size,1,none⟩=some (.int .i64 u)/\w'.cell? ⟨w.heap.size,2,none⟩=some (.int .i64 l)/\w'.cell? ⟨w.heap.size,3,none⟩=some (.int .i64 t)) (by kernel_rfl) (⟨by go_simp,by go_simp,by go_simp,by go_simp⟩) (fun hS=>?_);refine zac 0 rfl ?_;refine zac 1 rfl ?_;refine zci 2 rfl fun K hK=>?_;go_simp;refine same1 (zgv _ _) ?_;rw[h1];refine hK.out _ _ ‹_› fun _=>?_;(try simp only[nrm]);refine zac 3 rfl ?_;refine zac 4 rfl ?_;refine zac 5 rfl ?_;refine zci 6 rfl fun K hK=>?_;go_simp;refine same1 (zot _ _) ?_;rw[h2];refine hK.out _ _ ‹_› fun _=>?_;(try simp only[nrm]);refine zac 7 rfl ?_;refine zac 8 rfl ?_;refine zap 9 rfl ?_;refine zap 10 rfl ?_;refine zap 11 rfl ?_;refine zac 12 rfl ?_;refine zac 13 rfl ?_;refine zap 14 rfl ?_;refine zap 15 rfl ?_;refine zap 16 rfl ?_;refine zap 17 rfl ?_;refine zap 18 rfl ?_;refine zac 19 rfl ?_;refine zac 20 rfl ?_;refine wpAnyH_done (by kernel_rfl) ?_ _;go_wp2;go_ret;exact⟨rfl,by go_grown⟩
  ·cases h3:zba t
   ·show Calls _ _ _ _ fun e w'=>e=.returned (.bool false)/\Bw w w';go_enter Tryz.func183,Tryz.ntmps183;go_wp2;refine wp_region_held_drew (S:=fun w'=>w'.cell? ⟨w.heap.size,0,none⟩=some (.int .i64 r)/\w'.cell? ⟨w.heap.size,1,none⟩=some (.int .i64 u)/\w'.cell? ⟨w.heap.size,2,none⟩=some (.int .i64 l)/\w'.cell? ⟨w.heap.size,3,none⟩=some (.int .i64 t)) (by kernel_rfl) (⟨by go_simp,by go_simp,by go_simp,by go_simp⟩) (fun hS=>?_);refine zac 0 rfl ?_;refine zac 1 rfl ?_;refine zci 2 rfl fun K hK=>?_;go_simp;refine same1 (zgv _ _) ?_;rw[h1];refine hK.out _ _ ‹_› fun _=>?_;(try simp only[nrm]);refine zac 3 rfl ?_;refine zac 4 rfl ?_;refine zac 5 rfl ?_;refine zci 6 rfl fun K hK=>?_;go_simp;refine same1 (zot _ _) ?_;rw[h2];refine hK.out _ _ ‹_› fun _=>?_;(try simp only[nrm]);refine zac 7 rfl ?_;refine zac 8 rfl ?_;refine zac 9 rfl ?_;refine zac 10 rfl ?_;refine zci 11 rfl fun K hK=>?_;go_simp;refine same1 (zpx _ _) ?_;rw[h3];refine hK.out _ _ ‹_› fun _=>?_;(try simp only[nrm]);refine zac 12 rfl ?_;refine zac 13 rfl ?_;refine zap 14 rfl ?_;refine zap 15 rfl ?_;refine zap 16 rfl ?_;refine zap 17 rfl ?_;refine zap 18 rfl ?_;refine zac 19 rfl ?_;refine zac 20 rfl ?_;refine wpAnyH_done (by kernel_rfl) ?_ _;go_wp2;go_ret;exact⟨rfl,by go_grown⟩
   ·show Calls _ _ _ _ fun e w'=>e=.returned (.bool (zw4 u l))/\Bw w w';go_enter Tryz.func183,Tryz.ntmps183;go_wp2;refine wp_region_held_drew (S:=fun w'=>w'.cell? ⟨w.heap.size,0,none⟩=some (.int .i64 r)/\w'.cell? ⟨w.heap.size,1,none⟩=some (.int .i64 u)/\w'.cell? ⟨w.heap.size,2,none⟩=some (.int .i64 l)/\w'.cell? ⟨w.heap.size,3,none⟩=some (.int .i64 t)) (by kernel_rfl) (⟨by go_simp,by go_simp,by go_simp,by go_simp⟩) (fun hS=>?_);refine zac 0 rfl ?_;refine zac 1 rfl ?_;refine zci 2 rfl fun K hK=>?_;go_simp;refine same1 (zgv _ _) ?_;rw[h1];refine hK.out _ _ ‹_› fun _=>?_;(try simp only[nrm]);refine zac 3 rfl ?_;refine zac 4 rfl ?_;refine zac 5 rfl ?_;refine zci 6 rfl fun K hK=>?_;go_simp;refine same1 (zot _ _) ?_;rw[h2];refine hK.out _ _ ‹_› fun _=>?_;(try simp only[nrm]);refine zac 7 rfl ?_;refine zac 8 rfl ?_;refine zac 9 rfl ?_;refine zac 10 rfl ?_;refine zci 11 rfl fun K hK=>?_;go_simp;refine same1 (zpx _ _) ?_;rw[h3];refine hK.out _ _ ‹_› fun _=>?_;(try simp only[nrm]);refine zac 12 rfl ?_;refine zac 13 rfl ?_;refine zac 14 rfl ?_;refine zac 15 rfl ?_;refine zac 16 rfl ?_;refine zci 17 rfl fun K hK=>?_;go_simp;refine (zxh r u l t _ (zol h2)).mono ?_;rintro e w3 ⟨rfl,hb3⟩;have hS:=zxi hS hb3 (by simp);simp only[];refine hK.out _ _ ‹_› fun _=>?_;(try simp only[nrm]);refine zci 18 rfl fun K hK=>?_;go_simp;refine same1 (zbr _ _ _ _) ?_;rw[show (decide (0<=l) && decide (l<=1000000000*u))=zw4 u l from rfl];refine hK.out _ _ ‹_› fun _=>?_;(try simp only[nrm]);refine zac 19 rfl ?_;refine zac 20 rfl ?_;refine wpAnyH_done (by kernel_rfl) ?_ _;go_wp2;go_ret;exact⟨rfl,zaa (by go_grown) hb3⟩
structure OnlyP (p:Nat->Prop) (w w':World):Prop where
 os:w'.os=w.os
 tape:w'.tape=w.tape
 output:w'.output=w.output
 size:w.heap.size<=w'.heap.size
 block:∀k,k<w.heap.size->¬p k->w'.heap[k]?=w.heap[k]?
theorem OnlyP.of{o:Option Nat}{w w':World}(h:OnlyO o w w'):OnlyP (fun k=>o=some k) w w':=⟨h.os,h.tape,h.output,h.size,h.block⟩
theorem OnlyP.refl(p:Nat->Prop)(w:World):OnlyP p w w:=⟨rfl,rfl,rfl,nrf _,fun _ _ _=>rfl⟩
theorem OnlyP.trans{p q:Nat->Prop}{u v w:World}(h:OnlyP p u v)(k:OnlyP q v w):OnlyP (fun b=>p b\/q b) u w :=
 ⟨k.os.trans h.os,k.tape.trans h.tape,k.output.trans h.output,ntr h.size k.size,fun b hb hn=>(k.block b (nlt hb h.size) (fun e=>hn (.inr e))).trans (h.block b hb (fun e=>hn (.inl e)))⟩
theorem OnlyP.of_below{p:Nat->Prop}{w w':World}(h:Bw w w'):OnlyP p w w':=⟨h.os,h.tape,h.output,h.size,fun k hk _=>h.block k hk⟩
theorem OnlyP.weak{p q:Nat->Prop}{w w':World}(h:OnlyP p w w')(hp:∀k,p k->q k):OnlyP q w w':=⟨h.os,h.tape,h.output,h.size,fun k hk hn=>h.block k hk (fun e=>hn (hp k e))⟩
theorem OnlyP.below{p:Nat->Prop}{w w':World}{B:Nat}(h:OnlyP p w w')(hp:∀k,p k->B<=k)(hB:B<=w.heap.size):Below B w w' :=
 ⟨h.os,h.tape,h.output,h.size,fun k hk=>h.block k (by omega) (fun e=>by have:=hp k e;omega)⟩
theorem QFill.onlyP{w w':World}{g n k:Nat}{xs:List Q4}{p:Nat->Prop}(f:QFill w g n xs k)(ho:OnlyP p w w')(hg:g<w.heap.size)(hn:¬p g):QFill w' g n xs k:=by
 have e:=ho.block g hg hn;have hc:∀j,w'.cell? ⟨g,j,none⟩=w.cell? ⟨g,j,none⟩:=fun j=>World.cell?_of_block e;have hf:∀j,w'.frozen? ⟨g,j,none⟩=w.frozen? ⟨g,j,none⟩:=fun j=>World.frozen?_of_block e;refine⟨fun j hj=>?_,fun i hi hk=>?_⟩
 ·rw[hc,hf];exact f.any j hj
 ·rw[hc,hc,hc,hc];exact f.got i hi hk
theorem QV.onlyP{w w':World}{lo:Nat}{p:Nat->Prop}{v:Value}{xs:List Q4}(h:QV w lo v xs)(hb:OnlyP p w w')(hv:∀g,zhj v=some g->¬p g):QV w' lo v xs:=by
 rcases h.room with⟨g,cap,rfl,h1,h2,f,hc⟩|h
 ·exact .inl ⟨g,_,rfl,h1,nlt h2 hb.size,f.onlyP hb h2 (hv g rfl),hc⟩
 ·exact .inr h
theorem LV.onlyP{w w':World}{lo:Nat}{p:Nat->Prop}{sT sO sP:Value}{T O P:List Q4}(h:LV w lo sT sO sP T O P)(hb:OnlyP p w w')(h1:∀g,zhj sT=some g->¬p g)(h2:∀g,zhj sO=some g->¬p g)(h3:∀g,zhj sP=some g->¬p g):LV w' lo sT sO sP T O P :=
 ⟨h.t.onlyP hb h1,h.o.onlyP hb h2,h.p.onlyP hb h3,h.to,h.tp,h.op⟩
def inL(sT sO sP:Value)(k:Nat):Prop:=zhj sT=some k\/zhj sO=some k\/zhj sP=some k
theorem LV.lo{w:World}{lo:Nat}{sT sO sP:Value}{T O P:List Q4}(h:LV w lo sT sO sP T O P){k:Nat}(hk:inL sT sO sP k):lo<=k/\k<w.heap.size:=by
 rcases hk with e|e|e
 ·exact h.t.own e
 ·exact h.o.own e
 ·exact h.p.own e
theorem zeb{w:World}{g:Nat}{u0 u1 u2:Value}(a b c:Value)(h0:w.cell? ⟨g,0,none⟩=some u0)(h1:w.cell? ⟨g,1,none⟩=some u1)(h2:w.cell? ⟨g,2,none⟩=some u2):
 ∀j v,[a,b,c][j]?=some v->(((w.setCell ⟨g,0,none⟩ a).setCell ⟨g,1,none⟩ b).setCell ⟨g,2,none⟩ c).cell? ⟨g,j,none⟩=some v:=by
 have other:∀(x:World) (i k:Nat) (v:Value),i≠k->(x.setCell ⟨g,i,none⟩ v).cell? ⟨g,k,none⟩=x.cell? ⟨g,k,none⟩:=fun x i k v h=>World.cell?_setCell_other _ _ _ _ (fun e=>h (by injection e with _ e _));intro j v hv;match j,hv with
 | 0,hv=>obtain rfl:a=v:=by simpa using hv
         exact (other _ 2 0 _ (by decide)).trans ((other _ 1 0 _ (by decide)).trans (zcq _ h0))
 | 1,hv=>obtain rfl:b=v:=by simpa using hv
         exact (other _ 2 1 _ (by decide)).trans (zcq _ ((other _ 0 1 _ (by decide)).trans h1))
 | 2,hv=>obtain rfl:c=v:=by simpa using hv
         exact zcq _ ((other _ 1 2 _ (by decide)).trans ((other _ 0 2 _ (by decide)).trans h2))
theorem zfu(w:World)(b:Nat)(hb:b<=w.heap.size)(t:TypeId):(w.alloc (.cells #[] t)).ownsRow b t 4 (.slice (some ⟨w.heap.size,0,none⟩) 0 0) 0 [] :=
 ⟨rfl,.inr ⟨w.heap.size,0,#[],rfl,hb,heap_alloc_new _ _,nrf _,by unfold maxLen;omega,rfl,rfl⟩⟩
theorem zfv{w:World}{b off:Nat}{xs:List Q4}(h:Qw w (some ⟨b,off,none⟩) xs):∀j u,(za5 xs)[j]?=some u->w.cell? ((⟨b,off,none⟩:Addr).add j)=some u:=by
 intro j u hu;have hj:j<xs.length*4:=by
  rcases Nat.lt_or_ge j (xs.length*4) with k|k
  ·exact k
  ·rw[List.getElem?_eq_none (by rw[zcv];exact k)]at hu;cases hu
 have hadd:(⟨b,off,none⟩:Addr).add j=⟨b,off+j,none⟩:=by unfold Addr.add;split<;>simp_all
 rw[hadd];obtain⟨f0,f1,f2,f3⟩:=zia xs (j/4) (by omega);obtain⟨c0,c1,c2,c3⟩:=h.cells (brf _ _) (j/4) (by omega);have hm:j%4=0\/j%4=1\/j%4=2\/j%4=3:=by omega
 rcases hm with e|e|e|e
 ·rw[show j/4*4=j by omega]at f0 c0;rw[f0]at hu;rw[c0];exact hu
 ·rw[show j/4*4+1=j by omega]at f1;rw[show off+j/4*4+1=off+j by omega]at c1;rw[f1]at hu;rw[c1];exact hu
 ·rw[show j/4*4+2=j by omega]at f2;rw[show off+j/4*4+2=off+j by omega]at c2;rw[f2]at hu;rw[c2];exact hu
 ·rw[show j/4*4+3=j by omega]at f3;rw[show off+j/4*4+3=off+j by omega]at c3;rw[f3]at hu;rw[c3];exact hu
structure CpSt (w W:World) (sT sO sP v0 v4 v8:Value) (X0 X4 X8:List Q4):Prop where
 kept:Kept w [(w.heap.size,0,sT),(w.heap.size,1,sO),(w.heap.size,2,sP),(w.heap.size+1,0,.slice none 0 0),(w.heap.size+1,1,.slice none 0 0),(w.heap.size+1,2,.slice none 0 0)] [w.heap.size+1] W
 r0:W.ownsRow (w.heap.size+2) 110 4 v0 X0.length (za5 X0)
 r4:W.ownsRow (w.heap.size+2) 53 4 v4 X4.length (za5 X4)
 r8:W.ownsRow (w.heap.size+2) 53 4 v8 X8.length (za5 X8)
 ap:∀g,v4.ownBlock=some g->v8.ownBlock≠some g
 sz:w.heap.size+2<=W.heap.size
section
variable {w W:World} {sT sO sP v0 v4 v8:Value} {X0 X4 X8:List Q4}
theorem CpSt.drew(d:CpSt w W sT sO sP v0 v4 v8 X0 X4 X8):CpSt w W.drew sT sO sP v0 v4 v8 X0 X4 X8:=⟨d.kept.drew,zbd d.r0 (brf _ _).drew,zbd d.r4 (brf _ _).drew,zbd d.r8 (brf _ _).drew,d.ap,d.sz⟩
theorem CpSt.alloc0(d:CpSt w W sT sO sP v0 v4 v8 X0 X4 X8):CpSt w (W.alloc (.cells #[] 110)) sT sO sP (.slice (some ⟨W.heap.size,0,none⟩) 0 0) v4 v8 [] X4 X8 :=
 ⟨d.kept.next (zad _ _),zfu W _ d.sz _,d.r4.alloc _,d.r8.alloc _,d.ap,ntr d.sz (by simp)⟩
theorem CpSt.alloc4(d:CpSt w W sT sO sP v0 v4 v8 X0 X4 X8):CpSt w (W.alloc (.cells #[] 53)) sT sO sP v0 (.slice (some ⟨W.heap.size,0,none⟩) 0 0) v8 X0 [] X8 :=
 ⟨d.kept.next (zad _ _),d.r0.alloc _,zfu W _ d.sz _,d.r8.alloc _,fun g e h=>by have e1:W.heap.size=g:=osi e;have:=(d.r8.lt g h).2;omega,ntr d.sz (by simp)⟩
theorem CpSt.alloc8(d:CpSt w W sT sO sP v0 v4 v8 X0 X4 X8):CpSt w (W.alloc (.cells #[] 53)) sT sO sP v0 v4 (.slice (some ⟨W.heap.size,0,none⟩) 0 0) X0 X4 [] :=
 ⟨d.kept.next (zad _ _),d.r0.alloc _,d.r4.alloc _,zfu W _ d.sz _,fun g e h=>by have e1:W.heap.size=g:=osi h;have:=(d.r4.lt g e).2;omega,ntr d.sz (by simp)⟩
theorem CpSt.keeps(d:CpSt w W sT sO sP v0 v4 v8 X0 X4 X8){W':World}{row:Option Nat}(hg:W.grownBy W' row)(hr:∀g,row=some g->w.heap.size+2<=g):Kept w [(w.heap.size,0,sT),(w.heap.size,1,sO),(w.heap.size,2,sP),(w.heap.size+1,0,.slice none 0 0),(w.heap.size+1,1,.slice none 0 0),(w.heap.size+1,2,.slice none 0 0)] [w.heap.size+1] W':=by
 refine d.kept.onlyO (OnlyO.of_grown hg) (fun j e=>by have:=hr j e;omega) (fun c hc e=>?_) (fun b hb e=>?_)
 ·have:=hr _ e;simp only[List.mem_cons,List.not_mem_nil,or_false]at hc;rcases hc with rfl|rfl|rfl|rfl|rfl|rfl<;>simp only at this<;>omega
 ·have:=hr _ e;simp only[List.mem_cons,List.not_mem_nil,or_false]at hb;omega
theorem CpSt.app0(d:CpSt w W sT sO sP v0 v4 v8 X0 X4 X8){W':World}{v':Value}{X:List Q4}(hg:W.grownBy W' v0.ownBlock)(ho:W'.ownsRow (w.heap.size+2) 110 4 v' X.length (za5 X)):CpSt w W' sT sO sP v' v4 v8 X X4 X8 :=
 ⟨d.keeps hg (fun g e=>(d.r0.lt g e).1),ho,d.r4.kept hg (zb7 d.r4 d.r0 (by decide)),d.r8.kept hg (zb7 d.r8 d.r0 (by decide)),d.ap,ntr d.sz hg.size⟩
theorem CpSt.app4(d:CpSt w W sT sO sP v0 v4 v8 X0 X4 X8){W':World}{v':Value}{X:List Q4}(hg:W.grownBy W' v4.ownBlock)(ho:W'.ownsRow (w.heap.size+2) 53 4 v' X.length (za5 X))(hb:v'.ownBlock=v4.ownBlock\/v'.ownBlock=some W.heap.size):CpSt w W' sT sO sP v0 v' v8 X0 X X8 :=
 ⟨d.keeps hg (fun g e=>(d.r4.lt g e).1),d.r0.kept hg (zb7 d.r0 d.r4 (by decide)),ho,d.r8.kept hg (by
  cases h:v8.ownBlock with
  | none=>exact .inl rfl| some g=>exact .inr (fun e=>d.ap g e.symm h)),fun g e h=>by
  rcases hb with k|k
  ·rw[k]at e;exact d.ap g e h
  ·rw[k]at e;have e1:W.heap.size=g:=osi e;have:=(d.r8.lt g h).2;omega,ntr d.sz hg.size⟩
theorem CpSt.app8(d:CpSt w W sT sO sP v0 v4 v8 X0 X4 X8){W':World}{v':Value}{X:List Q4}(hg:W.grownBy W' v8.ownBlock)(ho:W'.ownsRow (w.heap.size+2) 53 4 v' X.length (za5 X))(hb:v'.ownBlock=v8.ownBlock\/v'.ownBlock=some W.heap.size):CpSt w W' sT sO sP v0 v4 v' X0 X4 X :=
 ⟨d.keeps hg (fun g e=>(d.r8.lt g e).1),d.r0.kept hg (zb7 d.r0 d.r8 (by decide)),d.r4.kept hg (by
  cases h:v4.ownBlock with
  | none=>exact .inl rfl| some g=>exact .inr (fun e=>d.ap g h e.symm)),ho,fun g e h=>by
  rcases hb with k|k
  ·rw[k]at h;exact d.ap g e h
  ·rw[k]at h;have e1:W.heap.size=g:=osi h;have:=(d.r4.lt g e).2;omega,ntr d.sz hg.size⟩
theorem CpSt.S(d:CpSt w W sT sO sP v0 v4 v8 X0 X4 X8):W.cell? ⟨w.heap.size,0,none⟩=some sT/\W.cell? ⟨w.heap.size,1,none⟩=some sO/\W.cell? ⟨w.heap.size,2,none⟩=some sP:=by obtain⟨⟨_,k0⟩,⟨_,k1⟩,⟨_,k2⟩,_⟩:=d.kept.cells;exact⟨k0,k1,k2⟩
end
def zt9(w:World)(T O P:List Q4)(e:Ending)(w':World):Prop:=∃gT cT gO cO gP cP,e=.returned (zea (some ⟨gT,0,none⟩) T.length cT (some ⟨gO,0,none⟩) O.length cO (some ⟨gP,0,none⟩) P.length cP) /\
 w'.ownsRow w.heap.size 110 4 (.slice (some ⟨gT,0,none⟩) T.length cT) T.length (za5 T)/\w'.ownsRow w.heap.size 53 4 (.slice (some ⟨gO,0,none⟩) O.length cO) O.length (za5 O) /\
 w'.ownsRow w.heap.size 53 4 (.slice (some ⟨gP,0,none⟩) P.length cP) P.length (za5 P)/\gO≠gP/\Bw w w'
theorem zch{w:World}{b b':Nat}{e:TypeId}{s n:Nat}{v:Value}{xs:List Value}(h:w.ownsRow b e s v n xs)(hb:b'<=b):w.ownsRow b' e s v n xs :=
 ⟨h.1,by
  rcases h.2 with k|⟨g,cap,cur,h1,h2,h3⟩
  ·exact .inl k
  ·exact .inr ⟨g,cap,cur,h1,by omega,h3⟩⟩
theorem zg0{w:World}{base:Nat}{e:TypeId}{s n:Nat}{v:Value}{xs:List Value}(h:w.ownsRow base e s v n xs)(hn:1<=n):∃g cap,v=.slice (some ⟨g,0,none⟩) n cap/\base<=g/\g<w.heap.size:=by
 rcases h.2 with⟨rfl,h0⟩|⟨g,cap,cur,rfl,hb,_⟩
 ·omega
 ·exact⟨g,cap,rfl,hb,(h.lt g rfl).2⟩
theorem cp_fin{w W:World}{sT sO sP:Value}{g3 k3 g7 k7 g11 k11:Nat}{T O P:List Q4}(d:CpSt w W sT sO sP (.slice (some ⟨g3,0,none⟩) T.length k3) (.slice (some ⟨g7,0,none⟩) O.length k7) (.slice (some ⟨g11,0,none⟩) P.length k11) T O P){a b c:Value}:
 zt9 w T O P (.returned (zea (some ⟨g3,0,none⟩) T.length k3 (some ⟨g7,0,none⟩) O.length k7 (some ⟨g11,0,none⟩) P.length k11)) (((W.setCell ⟨w.heap.size+1,0,none⟩ a).setCell ⟨w.heap.size+1,1,none⟩ b).setCell ⟨w.heap.size+1,2,none⟩ c) :=
 ⟨g3,k3,g7,k7,g11,k11,rfl,zch (za7 (za7 (za7 d.r0 (by omega)) (by omega)) (by omega)) (by omega),zch (za7 (za7 (za7 d.r4 (by omega)) (by omega)) (by omega)) (by omega),zch (za7 (za7 (za7 d.r8 (by omega)) (by omega)) (by omega)) (by omega),
  fun e=>d.ap g7 rfl (by rw[e];rfl),((d.kept.hb.setCell (by simp) _).setCell (by simp) _).setCell (by simp) _⟩
theorem zja{w:World}{aT aO aP:Option Addr}(cT cO cP:Nat){T O P:List Q4}(hT:Qw w aT T)(hO:Qw w aO O)(hP:Qw w aP P)(nT:1<=T.length/\T.length<=30)(nO:1<=O.length/\O.length<=30)(nP:1<=P.length/\P.length<=30):
 Calls Tryz.prog 116 #[zea aT T.length cT aO O.length cO aP P.length cP] w (zt9 w T O P):=by
 obtain⟨iC,hiC,zC0,zC1,zC2⟩:=info_parts zhb;obtain⟨iB,hiB,zB0,zB1,zB2⟩:=info_parts zhx;obtain⟨bT,oT,rfl,_⟩:=hT 0 (by omega);obtain⟨bO,oO,rfl,_⟩:=hO 0 (by omega);obtain⟨bP,oP,rfl,_⟩:=hP 0 (by omega);have D:Hid (CpSt w ((w.alloc (.cells #[.slice (some ⟨bT,oT,none⟩) T.length cT,.slice (some ⟨bO,oO,none⟩) O.length cO,.slice (some ⟨bP,oP,none⟩) P.length cP] 27)).alloc (.cells #[.slice none 0 0,.slice none 0 0,.slice none 0 0] 27)) (.slice (some ⟨bT,oT,none⟩) T.length cT) (.slice (some ⟨bO,oO,none⟩) O.length cO) (.slice (some ⟨bP,oP,none⟩) P.length cP) (.slice none 0 0) (.slice none 0 0) (.slice none 0 0) [] [] []) :=
  ⟨⟨⟨⟨by simp<;>omega,by go_simp⟩,⟨by simp<;>omega,by go_simp⟩,⟨by simp<;>omega,by go_simp⟩,⟨by simp,by go_simp⟩,⟨by simp,by go_simp⟩,⟨by simp,by go_simp⟩,trivial⟩,
   (fun b hb=>by simp only[List.mem_cons,List.not_mem_nil,or_false]at hb;subst hb;exact⟨by simp,fun o=>by go_simp⟩),by go_grown⟩,
   World.ownsRow_nil _ _ _ _,World.ownsRow_nil _ _ _ _,World.ownsRow_nil _ _ _ _,(fun g e=>by cases e),by simp⟩
 go_enter Tryz.func116,Tryz.ntmps116;go_wp2;obtain⟨W,hW⟩:∃W,(w.alloc (.cells #[.slice (some ⟨bT,oT,none⟩) T.length cT,.slice (some ⟨bO,oO,none⟩) O.length cO,.slice (some ⟨bP,oP,none⟩) P.length cP] 27)).alloc (.cells #[.slice none 0 0,.slice none 0 0,.slice none 0 0] 27)=W:=⟨_,rfl⟩;rw[hW]at D ⊢;clear hW;have D:Hid _:=D.out.drew;refine wp_region_held_drew (S:=fun w'=>w'.cell? ⟨w.heap.size,0,none⟩=some (.slice (some ⟨bT,oT,none⟩) T.length cT)/\w'.cell? ⟨w.heap.size,1,none⟩=some (.slice (some ⟨bO,oO,none⟩) O.length cO)/\w'.cell? ⟨w.heap.size,2,none⟩=some (.slice (some ⟨bP,oP,none⟩) P.length cP)) (by kernel_rfl) (D.out.S) (fun hS=>?_);obtain⟨x0,hx⟩:∃x,W.drew=x:=⟨_,rfl⟩;rw[hx]at D hS ⊢;clear hx;refine zac 1 rfl ?_;refine zac 2 rfl ?_;refine zac 5 rfl ?_;refine zac 6 rfl ?_;refine zac 9 rfl ?_;refine zac 10 rfl ?_;iterate 6 (
  (all_goals first| refine wpAnyH_ready (rs:=[0,4,8]) (by decide +kernel) (by simp) (AllReadyH.cons rfl (fun K h0=>?_) (AllReadyH.cons rfl (fun K h4=>?_) (AllReadyH.cons rfl (fun K h8=>?_) AllReadyH.nil)))| refine wpAnyH_ready (rs:=[3,4,8]) (by decide +kernel) (by simp) (AllReadyH.cons rfl (fun K h3=>?_) (AllReadyH.cons rfl (fun K h4=>?_) (AllReadyH.cons rfl (fun K h8=>?_) AllReadyH.nil)))| refine wpAnyH_ready (rs:=[0,4]) (by decide +kernel) (by simp) (AllReadyH.cons rfl (fun K h0=>?_) (AllReadyH.cons rfl (fun K h4=>?_) AllReadyH.nil))| refine wpAnyH_ready (rs:=[0,8]) (by decide +kernel) (by simp) (AllReadyH.cons rfl (fun K h0=>?_) (AllReadyH.cons rfl (fun K h8=>?_) AllReadyH.nil))| refine wpAnyH_ready (rs:=[3,4]) (by decide +kernel) (by simp) (AllReadyH.cons rfl (fun K h3=>?_) (AllReadyH.cons rfl (fun K h4=>?_) AllReadyH.nil))| refine wpAnyH_ready (rs:=[3,8]) (by decide +kernel) (by simp) (AllReadyH.cons rfl (fun K h3=>?_) (AllReadyH.cons rfl (fun K h8=>?_) AllReadyH.nil))| refine wpAnyH_ready (rs:=[4,8]) (by decide +kernel) (by simp) (AllReadyH.cons rfl (fun K h4=>?_) (AllReadyH.cons rfl (fun K h8=>?_) AllReadyH.nil))| refine wpAnyH_ready (rs:=[7,8]) (by decide +kernel) (by simp) (AllReadyH.cons rfl (fun K h7=>?_) (AllReadyH.cons rfl (fun K h8=>?_) AllReadyH.nil))| refine wpAnyH_ready (rs:=[0]) (by decide +kernel) (by simp) (AllReadyH.cons rfl (fun K h0=>?_) AllReadyH.nil)| refine wpAnyH_ready (rs:=[3]) (by decide +kernel) (by simp) (AllReadyH.cons rfl (fun K h3=>?_) AllReadyH.nil)| refine wpAnyH_ready (rs:=[4]) (by decide +kernel) (by simp) (AllReadyH.cons rfl (fun K h4=>?_) AllReadyH.nil)| refine wpAnyH_ready (rs:=[7]) (by decide +kernel) (by simp) (AllReadyH.cons rfl (fun K h7=>?_) AllReadyH.nil)| refine wpAnyH_ready (rs:=[8]) (by decide +kernel) (by simp) (AllReadyH.cons rfl (fun K h8=>?_) AllReadyH.nil)| refine wpAnyH_ready (rs:=[11]) (by decide +kernel) (by simp) (AllReadyH.cons rfl (fun K h11=>?_) AllReadyH.nil));all_goals first| (have hK:=h0;clear h0;go_simp;have D:Hid _:=D.out.alloc0;obtain⟨x0,hx⟩:∃x,x0.alloc (.cells #[] 110)=x:=⟨_,rfl⟩;rw[hx]at D ⊢;clear hx;refine hK.out _ _ D.out.S (fun hS=>?_);clear hK;try simp only[nrm])| (have hK:=h4;clear h4;go_simp;have D:Hid _:=D.out.alloc4;obtain⟨x0,hx⟩:∃x,x0.alloc (.cells #[] 53)=x:=⟨_,rfl⟩;rw[hx]at D ⊢;clear hx;refine hK.out _ _ D.out.S (fun hS=>?_);clear hK;try simp only[nrm])| (have hK:=h8;clear h8;go_simp;have D:Hid _:=D.out.alloc8;obtain⟨x0,hx⟩:∃x,x0.alloc (.cells #[] 53)=x:=⟨_,rfl⟩;rw[hx]at D ⊢;clear hx;refine hK.out _ _ D.out.S (fun hS=>?_);clear hK;try simp only[nrm])| (have hK:=h3;clear h3;rw[if_pos (by rfl)];refine zc5 _ _ _ 24 rfl (w.heap.size+2) 110 iC _ 4 32 Tryz.underlying24 hiC zC0 zC1 zC2 rfl (by decide) _ _ _ rfl D.out.r0 ⟨bT,oT,none⟩ T.length cT (za5 T) rfl (zcv T) (zfv (hT.here D.out.kept.hb)) (zc6 T) (by rw[List.length_nil];unfold maxLen;omega) (by rw[List.length_nil];omega) D.out.sz (by omega) ?_;intro vn x0 ho hgr hbl;rw[List.length_nil,Nat.zero_add,show za5 [] ++ za5 T=za5 T from rfl]at ho;obtain⟨g3,k3,rfl,_,_⟩:=zg0 ho nT.1;have D:Hid _:=D.out.app0 hgr ho;clear ho hgr hbl;refine hK.out _ _ D.out.S (fun hS=>?_);clear hK;try simp only[nrm])| (have hK:=h7;clear h7;rw[if_pos (by rfl)];refine zc5 _ _ _ 25 rfl (w.heap.size+2) 53 iB _ 4 32 Tryz.underlying25 hiB zB0 zB1 zB2 rfl (by decide) _ _ _ rfl D.out.r4 ⟨bO,oO,none⟩ O.length cO (za5 O) rfl (zcv O) (zfv (hO.here D.out.kept.hb)) (zc6 O) (by rw[List.length_nil];unfold maxLen;omega) (by rw[List.length_nil];omega) D.out.sz (by omega) ?_;intro vn x0 ho hgr hbl;rw[List.length_nil,Nat.zero_add,show za5 [] ++ za5 O=za5 O from rfl]at ho;obtain⟨g7,k7,rfl,_,_⟩:=zg0 ho nO.1;have D:Hid _:=D.out.app4 hgr ho hbl;clear ho hgr hbl;refine hK.out _ _ D.out.S (fun hS=>?_);clear hK;try simp only[nrm])| (have hK:=h11;clear h11;rw[if_pos (by rfl)];refine zc5 _ _ _ 25 rfl (w.heap.size+2) 53 iB _ 4 32 Tryz.underlying25 hiB zB0 zB1 zB2 rfl (by decide) _ _ _ rfl D.out.r8 ⟨bP,oP,none⟩ P.length cP (za5 P) rfl (zcv P) (zfv (hP.here D.out.kept.hb)) (zc6 P) (by rw[List.length_nil];unfold maxLen;omega) (by rw[List.length_nil];omega) D.out.sz (by omega) ?_;intro vn x0 ho hgr hbl;rw[List.length_nil,Nat.zero_add,show za5 [] ++ za5 P=za5 P from rfl]at ho;obtain⟨g11,k11,rfl,_,_⟩:=zg0 ho nP.1;have D:Hid _:=D.out.app8 hgr ho hbl;clear ho hgr hbl;refine hK.out _ _ D.out.S (fun hS=>?_);clear hK;try simp only[nrm]))
 all_goals
  refine zac 12 rfl ?_;have ⟨⟨_,q0⟩,⟨_,q1⟩,⟨_,q2⟩,⟨_,q3⟩,⟨_,q4⟩,⟨_,q5⟩,_⟩:=D.out.kept.cells;have fr:=(D.out.kept.free (w.heap.size+1) (List.mem_singleton.2 rfl)).2;refine zci 13 rfl fun K hK=>?_;go_simp;refine hK.out _ _ ⟨(zam (by simp)).trans ((zam (by simp)).trans ((zam (by simp)).trans q0)),(zam (by simp)).trans ((zam (by simp)).trans ((zam (by simp)).trans q1)),(zam (by simp)).trans ((zam (by simp)).trans ((zam (by simp)).trans q2))⟩ (fun _=>?_);(try simp only[nrm]);refine wpAnyH_done (by kernel_rfl) ?_ _;go_wp2;refine bodyPost_ret (zaf rfl _ _ _ [.slice (some ⟨g3,0,none⟩) T.length k3,.slice (some ⟨g7,0,none⟩) O.length k7,.slice (some ⟨g11,0,none⟩) P.length k11] rfl (zeb (u0:=.slice none 0 0) (u1:=.slice none 0 0) (u2:=.slice none 0 0) _ _ _ q3 q4 q5) Tryz.underlying27 rfl (by kernel_rfl)) rfl ?_;exact cp_fin D.out
theorem OnlyP.two{p:Nat->Prop}{u v w:World}(h:OnlyP p u v)(k:OnlyP p v w):OnlyP p u w:=(h.trans k).weak (fun b e=>e.elim id id)
theorem OnlyP.ofOnly{p:Nat->Prop}{g:Nat}{w w':World}(h:Only g w w')(hg:p g):OnlyP p w w':=⟨h.os,h.tape,h.output,h.size,fun k hk hn=>h.block k hk (fun e=>hn (by rw[e];exact hg))⟩
def inG(g:Nat)(vs:List Value)(b:Nat):Prop:=b=g\/∃u ∈ vs,elB u=some b
def inV:Value->List Value->Nat->Prop
 | .slice (some a) _ _,vs,b=>vs≠[]/\inG a.block vs b| _,_,_=>False
theorem zse(v:Value)(b:Nat):¬inV v [] b:=fun h=>by
 unfold inV at h;split at h
 ·exact h.1 rfl
 ·exact h
theorem z1r{g i:Nat}{vs:List Value}{u:Value}{b:Nat}(h:inG g (vs.set i u) b):inG g vs b\/elB u=some b:=by
 rcases h with h|⟨x,hx,e⟩
 ·exact .inl (.inl h)
 ·rcases List.mem_or_eq_of_mem_set hx with h|h
  ·exact .inl (.inr ⟨x,h,e⟩)
  ·rw[h]at e;exact .inr e
section
variable{w w':World}{lo hi g:Nat}{vs:List Value}
theorem FO.sameG{fs:List F8}(h:FO w lo hi g fs.length vs fs)(hs:w.heap.size<=w'.heap.size)(hb:vs≠[]->∀b,inG g vs b->w'.heap[b]?=w.heap[b]?):FO w' lo hi g fs.length vs fs:=by
 by_cases hn:vs=[]
 ·have hl:=h.len;rw[hn]at hl;have hf:fs=[]:=List.eq_nil_of_length_eq_zero hl.symm;subst hn hf;exact⟨h.g0,h.g1,ntr h.top hs,h.len,h.le,(fun j hj=>by simp at hj),(fun i hi'=>by cases hi'),(fun i hi'=>by cases hi'),h.far,h.apart⟩
 ·have hb:=hb hn;have eg:=hb g (.inl rfl);refine⟨h.g0,h.g1,ntr h.top hs,h.len,h.le,fun j hj=>?_,fun i hi' h'=>?_,fun i hi' h'=>?_,h.far,h.apart⟩
  ·obtain⟨⟨z,hz⟩,hf⟩:=h.any j hj;exact⟨⟨z,(World.cell?_of_block (a:=⟨g,j,none⟩) eg).trans hz⟩,(World.frozen?_of_block (a:=⟨g,j,none⟩) eg).trans hf⟩
  ·obtain⟨c0,c1,c2⟩:=h.got i hi' h';exact⟨(World.cell?_of_block (a:=⟨g,i*3,none⟩) eg).trans c0,(World.cell?_of_block (a:=⟨g,i*3+1,none⟩) eg).trans c1,(World.cell?_of_block (a:=⟨g,i*3+2,none⟩) eg).trans c2⟩
  ·exact (h.own i hi' h').same hs (fun b e=>hb b (.inr ⟨_,List.getElem_mem h',e⟩))
theorem KO.sameG{ks:List Kn}(h:KO w lo hi g ks.length vs ks)(hs:w.heap.size<=w'.heap.size)(hb:vs≠[]->∀b,inG g vs b->w'.heap[b]?=w.heap[b]?):KO w' lo hi g ks.length vs ks:=by
 by_cases hn:vs=[]
 ·have hl:=h.len;rw[hn]at hl;have hf:ks=[]:=List.eq_nil_of_length_eq_zero hl.symm;subst hn hf;exact⟨h.g0,h.g1,ntr h.top hs,h.len,h.le,(fun j hj=>by simp at hj),(fun i hi'=>by cases hi'),(fun i hi'=>by cases hi'),h.far,h.apart⟩
 ·have hb:=hb hn;have eg:=hb g (.inl rfl);refine⟨h.g0,h.g1,ntr h.top hs,h.len,h.le,fun j hj=>?_,fun i hi' h'=>?_,fun i hi' h'=>?_,h.far,h.apart⟩
  ·obtain⟨⟨z,hz⟩,hf⟩:=h.any j hj;exact⟨⟨z,(World.cell?_of_block (a:=⟨g,j,none⟩) eg).trans hz⟩,(World.frozen?_of_block (a:=⟨g,j,none⟩) eg).trans hf⟩
  ·obtain⟨c0,c1⟩:=h.got i hi' h';exact⟨fun j v hv=>(World.cell?_of_block (a:=⟨g,i*14+j,none⟩) eg).trans (c0 j v hv),(World.cell?_of_block (a:=⟨g,i*14+13,none⟩) eg).trans c1⟩
  ·exact (h.own i hi' h').same hs (fun b e=>hb b (.inr ⟨_,List.getElem_mem h',e⟩))
end
def TX(w:World)(lo hi:Nat)(v:Value)(vs:List Value)(fs:List F8):Prop :=
 (∃g cap,v=.slice (some ⟨g,0,none⟩) fs.length cap/\fs.length<=cap/\FO w lo hi g fs.length vs fs)\/(fs=[]/\vs=[]/\∃a c,v=.slice a 0 c)
def KX(w:World)(lo hi:Nat)(v:Value)(vs:List Value)(ks:List Kn):Prop :=
 (∃g cap,v=.slice (some ⟨g,0,none⟩) ks.length cap/\ks.length<=cap/\KO w lo hi g ks.length vs ks)\/(ks=[]/\vs=[]/\∃a c,v=.slice a 0 c)
section
variable {w w':World} {lo hi:Nat} {v:Value} {vs:List Value} {fs:List F8} {ks:List Kn}
theorem TX.bd(h:TX w lo hi v vs fs){b:Nat}(hb:inV v vs b):lo<=b/\b<hi/\b<w.heap.size:=by
 rcases h with⟨g,cap,rfl,hc,f⟩|⟨rfl,rfl,_⟩
 ·rcases hb.2 with e|⟨u,hu,e⟩
  ·have e:b=g:=e;subst e;exact⟨f.g0,f.g1,nlt f.g1 f.top⟩
  ·obtain⟨i,hi',rfl⟩:=List.mem_iff_getElem.1 hu;exact (f.own i (by rw[<-f.len];exact hi') hi').el e
 ·exact absurd hb (zse _ _)
theorem KX.bd(h:KX w lo hi v vs ks){b:Nat}(hb:inV v vs b):lo<=b/\b<hi/\b<w.heap.size:=by
 rcases h with⟨g,cap,rfl,hc,f⟩|⟨rfl,rfl,_⟩
 ·rcases hb.2 with e|⟨u,hu,e⟩
  ·have e:b=g:=e;subst e;exact⟨f.g0,f.g1,nlt f.g1 f.top⟩
  ·obtain⟨i,hi',rfl⟩:=List.mem_iff_getElem.1 hu;exact (f.own i (by rw[<-f.len];exact hi') hi').el e
 ·exact absurd hb (zse _ _)
theorem TX.same(h:TX w lo hi v vs fs)(hs:w.heap.size<=w'.heap.size)(hb:∀b,inV v vs b->w'.heap[b]?=w.heap[b]?):TX w' lo hi v vs fs:=by
 rcases h with⟨g,cap,rfl,hc,f⟩|h
 ·exact .inl ⟨g,cap,rfl,hc,f.sameG hs (fun hn b hg=>hb b ⟨hn,hg⟩)⟩
 ·exact .inr h
theorem KX.same(h:KX w lo hi v vs ks)(hs:w.heap.size<=w'.heap.size)(hb:∀b,inV v vs b->w'.heap[b]?=w.heap[b]?):KX w' lo hi v vs ks:=by
 rcases h with⟨g,cap,rfl,hc,f⟩|h
 ·exact .inl ⟨g,cap,rfl,hc,f.sameG hs (fun hn b hg=>hb b ⟨hn,hg⟩)⟩
 ·exact .inr h
theorem TX.next(h:TX w lo hi v vs fs)(hb:Bw w w'):TX w' lo hi v vs fs:=h.same hb.size (fun b hv=>hb.block b (h.bd hv).2.2)
theorem KX.next(h:KX w lo hi v vs ks)(hb:Bw w w'):KX w' lo hi v vs ks:=h.same hb.size (fun b hv=>hb.block b (h.bd hv).2.2)
theorem TX.onlyP{p:Nat->Prop}(h:TX w lo hi v vs fs)(o:OnlyP p w w')(hn:∀b,inV v vs b->¬p b):TX w' lo hi v vs fs:=h.same o.size (fun b hv=>o.block b (h.bd hv).2.2 (hn b hv))
theorem KX.onlyP{p:Nat->Prop}(h:KX w lo hi v vs ks)(o:OnlyP p w w')(hn:∀b,inV v vs b->¬p b):KX w' lo hi v vs ks:=h.same o.size (fun b hv=>o.block b (h.bd hv).2.2 (hn b hv))
theorem TX.wider{lo' hi':Nat}(h:TX w lo hi v vs fs)(h1:lo'<=lo)(h2:hi<=hi')(h3:hi'<=w.heap.size):TX w lo' hi' v vs fs:=by
 rcases h with⟨g,cap,rfl,hc,f⟩|h
 ·exact .inl ⟨g,cap,rfl,hc,f.wider h1 h2 h3⟩
 ·exact .inr h
theorem KX.wider{lo' hi':Nat}(h:KX w lo hi v vs ks)(h1:lo'<=lo)(h2:hi<=hi')(h3:hi'<=w.heap.size):KX w lo' hi' v vs ks:=by
 rcases h with⟨g,cap,rfl,hc,f⟩|h
 ·exact .inl ⟨g,cap,rfl,hc,f.wider h1 h2 h3⟩
 ·exact .inr h
theorem TX.fls{n c:Nat}{a:Option Addr}(h:TX w lo hi (.slice a n c) vs fs):n=fs.length/\Fw w a fs:=by
 rcases h with⟨g,cap,e,hc,f⟩|⟨rfl,_,a',c',e⟩
 ·injection e with e1 e2 e3;subst e1 e2;exact⟨rfl,f.fls⟩
 ·injection e with e1 e2 e3;exact⟨e2,Fls.nil _ _ _⟩
theorem KX.kls{n c:Nat}{a:Option Addr}(h:KX w lo hi (.slice a n c) vs ks):n=ks.length/\Kw w a ks:=by
 rcases h with⟨g,cap,e,hc,f⟩|⟨rfl,_,a',c',e⟩
 ·injection e with e1 e2 e3;subst e1 e2;exact⟨rfl,f.kls⟩
 ·injection e with e1 e2 e3;exact⟨e2,Kls.nil _ _ _⟩
theorem TV.tx(h:TV w lo hi v fs):∃vs,TX w lo hi v vs fs:=by
 rcases h with⟨g,cap,vs,e,hc,f⟩|⟨h,a,c,e⟩
 ·exact⟨vs,.inl ⟨g,cap,e,hc,f⟩⟩
 ·exact⟨[],.inr ⟨h,rfl,a,c,e⟩⟩
theorem KV.kx(h:KV w lo hi v ks):∃vs,KX w lo hi v vs ks:=by
 rcases h with⟨g,cap,vs,e,hc,f⟩|⟨h,a,c,e⟩
 ·exact⟨vs,.inl ⟨g,cap,e,hc,f⟩⟩
 ·exact⟨[],.inr ⟨h,rfl,a,c,e⟩⟩
end
def Room(w:World)(v:Value):Prop:=(∃a,v=.slice a 0 0)\/∃g n cap cur,v=.slice (some ⟨g,0,none⟩) (n+1) cap/\w.heap[g]?=some (.cells cur 2 (0,0))/\n+1<=cap/\cap<=maxLen/\cur.size=cap*1
theorem Room.same{w w':World}{v:Value}(h:Room w v)(hb:∀b,elB v=some b->b<w.heap.size->w'.heap[b]?=w.heap[b]?):Room w' v:=by
 rcases h with h|⟨g,n,cap,cur,rfl,h1,h2⟩
 ·exact .inl h
 ·exact .inr ⟨g,n,cap,cur,rfl,(hb g rfl (Array.getElem?_eq_some_iff.1 h1).1).trans h1,h2⟩
theorem Room.next{w w':World}{v:Value}(h:Room w v)(hb:Bw w w'):Room w' v:=h.same (fun b _ h2=>hb.block b h2)
section
variable{w:World}
theorem zou{lo n:Nat}{v:Value}{xs:List Value}(h:w.ownsRow lo 2 1 v n xs)(hz:n=0->∃a,v=.slice a 0 0):Room w v:=by
 rcases h.2 with⟨e,_⟩|⟨g,cap,cur,e,_,h1,h2,h3,h4,_⟩
 ·exact .inl ⟨none,e⟩
 ·cases n with
  | zero=>exact .inl (hz rfl)| succ n=>exact .inr ⟨g,n,cap,cur,e,h1,h2,h3,h4⟩
theorem Room.row{lo hi:Nat}{v:Value}{xs:List Int}(h:Room w v)(o:IO w lo hi v xs):(xs=[]/\∃a,v=.slice a 0 0)\/(xs≠[]/\w.ownsRow lo 2 1 v xs.length (zbc xs)):=by
 obtain⟨a,c,rfl,hc,o⟩:=o;rcases h with⟨a',e⟩|⟨g,n,cap,cur,e,h1,h2,h3,h4⟩
 ·injection e with e1 e2 e3;exact .inl ⟨List.eq_nil_of_length_eq_zero e2,a,by rw[e2,e3]⟩
 ·injection e with e1 e2 e3;subst e1 e3;have hne:xs≠[]:=fun e=>(by rw[e]at e2;cases e2);refine .inr ⟨hne,by simp[zbc],.inr ⟨g,c,cur,rfl,?_,h1,hc,h3,h4,?_⟩⟩
  ·rcases o with o|⟨g',off,e,k1,_⟩
   ·exact absurd o hne
   ·injection e with e;injection e with e _ _;rw[e];exact k1
  ·rcases o with o|⟨g',off,e,k1,k2,k3,k4⟩
   ·exact absurd o hne
   ·injection e with e;injection e with e e' _;subst e e';apply List.ext_getElem?;intro i;rw[List.getElem?_take];by_cases hi:i<xs.length
    ·have hx:i<cur.size:=(by omega);rw[if_pos (by omega),Array.getElem?_toList];have q:=(k4 i hi).1;rw[Nat.zero_add]at q;have r:w.cell? ⟨g,i,none⟩=cur[i]?:=(by simp[World.cell?,h1]);rw[<-r,q];simp[zbc,hi]
    ·rw[if_neg (by omega)];exact (List.getElem?_eq_none (by simp only[zbc,List.length_map];omega)).symm
theorem KX.mem{lo hi:Nat}{v:Value}{vs:List Value}{ks:List Kn}(h:KX w lo hi v vs ks){u:Value}(hu:u ∈ vs){b:Nat}(e:elB u=some b):inV v vs b:=by
 rcases h with⟨g,cap,rfl,hc,f⟩|⟨rfl,rfl,_⟩
 ·exact⟨List.ne_nil_of_mem hu,.inr ⟨u,hu,e⟩⟩
 ·cases hu
theorem z0y{kl kh:Nat}{v:Value}{uK:List Value}(h:KX w kl kh v uK []):∀u ∈ uK,Room w u:=fun u hu=>by
 have hn:uK=[]:=by
  rcases h with⟨g,cap,_,_,f⟩|⟨_,e,_⟩
  ·exact List.eq_nil_of_length_eq_zero f.len
  ·exact e
 rw[hn]at hu;cases hu
end
structure EOwn (w:World) (lo hi:Nat) (sT sO sP vL:Value) (uL:List Value) (vK:Value) (uK:List Value) (T O P:List Q4) (L:List F8) (K:List Kn):Prop where
 l:LV w lo sT sO sP T O P
 lb:∀b,inL sT sO sP b->b<hi
 p:TX w lo hi vL uL L
 k:KX w lo hi vK uK K
 d1:∀b,inL sT sO sP b->¬inV vL uL b
 d2:∀b,inL sT sO sP b->¬inV vK uK b
 d3:∀b,inV vL uL b->¬inV vK uK b
 top:hi<=w.heap.size
 rm:∀u ∈ uK,Room w u
def inE(sT sO sP vL:Value)(uL:List Value)(vK:Value)(uK:List Value)(b:Nat):Prop:=inL sT sO sP b\/inV vL uL b\/inV vK uK b
section
variable {w w':World} {lo hi:Nat} {sT sO sP vL vK:Value} {uL uK:List Value} {T O P:List Q4} {L:List F8} {K:List Kn}
theorem EOwn.bd(h:EOwn w lo hi sT sO sP vL uL vK uK T O P L K){b:Nat}(hb:inE sT sO sP vL uL vK uK b):lo<=b/\b<hi:=by
 rcases hb with e|e|e
 ·exact⟨(h.l.lo e).1,h.lb b e⟩
 ·exact⟨(h.p.bd e).1,(h.p.bd e).2.1⟩
 ·exact⟨(h.k.bd e).1,(h.k.bd e).2.1⟩
theorem EOwn.next(h:EOwn w lo hi sT sO sP vL uL vK uK T O P L K)(hb:Bw w w'):EOwn w' lo hi sT sO sP vL uL vK uK T O P L K :=
 ⟨h.l.next hb,h.lb,h.p.next hb,h.k.next hb,h.d1,h.d2,h.d3,ntr h.top hb.size,fun u hu=>(h.rm u hu).next hb⟩
theorem EOwn.onlyP{p:Nat->Prop}(h:EOwn w lo hi sT sO sP vL uL vK uK T O P L K)(o:OnlyP p w w')(hn:∀b,inE sT sO sP vL uL vK uK b->¬p b):EOwn w' lo hi sT sO sP vL uL vK uK T O P L K :=
 ⟨h.l.onlyP o (fun b e=>hn b (.inl (.inl e))) (fun b e=>hn b (.inl (.inr (.inl e)))) (fun b e=>hn b (.inl (.inr (.inr e)))),h.lb,h.p.onlyP o (fun b e=>hn b (.inr (.inl e))),h.k.onlyP o (fun b e=>hn b (.inr (.inr e))),h.d1,h.d2,h.d3,ntr h.top o.size,fun u hu=>(h.rm u hu).same (fun b e h2=>o.block b h2 (hn b (.inr (.inr (h.k.mem hu e)))))⟩
theorem EOwn.only{g:Nat}(h:EOwn w lo hi sT sO sP vL uL vK uK T O P L K)(o:Only g w w')(hn:¬inE sT sO sP vL uL vK uK g):EOwn w' lo hi sT sO sP vL uL vK uK T O P L K :=
 h.onlyP (OnlyP.ofOnly (p:=fun b=>b=g) o rfl) (fun b hb e=>hn (by rw[<-e];exact hb))
theorem EOwn.wider{lo' hi':Nat}(h:EOwn w lo hi sT sO sP vL uL vK uK T O P L K)(h1:lo'<=lo)(h2:hi<=hi')(h3:hi'<=w.heap.size):EOwn w lo' hi' sT sO sP vL uL vK uK T O P L K :=
 ⟨h.l.lower h1,fun b hb=>nlt (h.lb b hb) h2,h.p.wider h1 h2 h3,h.k.wider h1 h2 h3,h.d1,h.d2,h.d3,h3,h.rm⟩
end
def Eng(w:World)(lo hi:Nat)(sT sO sP vL vK:Value)(T O P:List Q4)(L:List F8)(K:List Kn):Prop:=∃lo' hi' uL uK,lo<=lo'/\hi'<=hi/\EOwn w lo' hi' sT sO sP vL uL vK uK T O P L K
structure EInt (w:World) (ll lh pl ph kl kh:Nat) (sT sO sP vL vK:Value) (T O P:List Q4) (L:List F8) (K:List Kn):Prop where
 l:LV w ll sT sO sP T O P
 lb:∀b,inL sT sO sP b->b<lh
 p:TV w pl ph vL L
 k:KV w kl kh vK K
 d1:lh<=pl\/ph<=ll
 d2:lh<=kl\/kh<=ll
 d3:ph<=kl\/kh<=pl
 t1:lh<=w.heap.size
 t2:ph<=w.heap.size
 t3:kh<=w.heap.size
section
variable {w w':World} {ll lh pl ph kl kh:Nat} {sT sO sP vL vK:Value} {T O P:List Q4} {L:List F8} {K:List Kn}
end
theorem Eng.ofI{w:World}{lo hi:Nat}{sT sO sP vL vK:Value}{T O P:List Q4}{L:List F8}{K:List Kn}(h:∃ll lh pl ph kl kh,(lo<=ll/\lo<=pl/\lo<=kl)/\(lh<=hi/\ph<=hi/\kh<=hi)/\EInt w ll lh pl ph kl kh sT sO sP vL vK T O P L K)(hrm:∀kl kh uK,KX w kl kh vK uK K->∀u ∈ uK,Room w u):Eng w lo hi sT sO sP vL vK T O P L K:=by
 obtain⟨ll,lh,pl,ph,kl,kh,⟨h1,h2,h3⟩,⟨h4,h5,h6⟩,e⟩:=h;obtain⟨uL,tx⟩:=e.p.tx;obtain⟨uK,kx⟩:=e.k.kx;have d1:=e.d1;have d2:=e.d2;have d3:=e.d3;have t1:=e.t1;have t2:=e.t2;have t3:=e.t3;obtain⟨m,hm⟩:∃m,m=max lh (max ph kh):=⟨_,rfl⟩;have hm1:lh<=m:=by omega
 have hm2:ph<=m:=by omega
 have hm3:kh<=m:=by omega
 have hm4:m<=hi:=by omega
 have hm5:m<=w.heap.size:=by omega
 clear hm;exact⟨lo,m,uL,uK,nrf _,hm4,e.l.lower h1,fun b hb=>nlt (e.lb b hb) hm1,tx.wider h2 hm2 hm5,kx.wider h3 hm3 hm5,
  fun b hb hv=>by have a1:=e.lb b hb;have a2:=(e.l.lo hb).1;have a3:=tx.bd hv;omega,fun b hb hv=>by have a1:=e.lb b hb;have a2:=(e.l.lo hb).1;have a3:=kx.bd hv;omega,fun b hb hv=>by have a1:=tx.bd hb;have a3:=kx.bd hv;omega,hm5,hrm _ _ _ kx⟩
section
variable {w w':World} {lo hi:Nat} {sT sO sP vL vK:Value} {T O P:List Q4} {L:List F8} {K:List Kn}
theorem EOwn.eng{uL uK:List Value}(h:EOwn w lo hi sT sO sP vL uL vK uK T O P L K):Eng w lo hi sT sO sP vL vK T O P L K:=⟨lo,hi,uL,uK,nrf _,nrf _,h⟩
theorem Eng.next(h:Eng w lo hi sT sO sP vL vK T O P L K)(hb:Bw w w'):Eng w' lo hi sT sO sP vL vK T O P L K:=by obtain⟨a,b,c,d,h1,h2,o⟩:=h;exact⟨a,b,c,d,h1,h2,o.next hb⟩
theorem Eng.wider{lo' hi':Nat}(h:Eng w lo hi sT sO sP vL vK T O P L K)(hl:lo'<=lo)(hh:hi<=hi'):Eng w lo' hi' sT sO sP vL vK T O P L K:=by obtain⟨a,b,c,d,h1,h2,o⟩:=h;exact⟨a,b,c,d,ntr hl h1,ntr h2 hh,o⟩
theorem zxk{p:Nat->Prop}(h:Eng w lo hi sT sO sP vL vK T O P L K)(o:OnlyP p w w')(hne:∀g,lo<=g/\g<hi->¬p g):Eng w' lo hi sT sO sP vL vK T O P L K:=by obtain⟨a,b,c,d,h1,h2,x⟩:=h;exact⟨a,b,c,d,h1,h2,x.onlyP o (fun g hg=>hne g (by have:=x.bd hg;omega))⟩
theorem Eng.only{g:Nat}(h:Eng w lo hi sT sO sP vL vK T O P L K)(o:Only g w w')(hg:g<lo\/hi<=g):Eng w' lo hi sT sO sP vL vK T O P L K :=
 zxk h (OnlyP.ofOnly (p:=fun b=>b=g) o rfl) (fun b hb e=>by omega)
end
theorem zjb:(Tryz.prog.info? 50).map (fun i=>(i.zero,i.size,i.bytes))=some (some (.agg #[.int .i64 0,.int .i64 0,.slice none 0 0]),3,40):=by kernel_rfl
def fK(K:List Kn)(id:Int):Int:=if K.findIdx (fun c=>c.id == id)<K.length then (K.findIdx (fun c=>c.id == id):Int) else -1
section
variable{K:List Kn}{id:Int}
theorem fK_at{k:Nat}(h:k<K.length)(hk:k<=K.findIdx (fun c=>c.id == id))(e:K[k].id=id):fK K id=k:=by have:K.findIdx (fun c=>c.id == id)=k:=(List.findIdx_eq h).2 ⟨by simpa using e,fun j hj=>by have:=List.not_of_lt_findIdx (show j<K.findIdx (fun c=>c.id == id) by omega);simpa using this⟩;unfold fK;rw[this,if_pos h]
theorem z1s{k:Nat}(h:k<K.length)(hk:k<=K.findIdx (fun c=>c.id == id))(e:¬K[k].id=id):k+1<=K.findIdx (fun c=>c.id == id):=by
 by_cases e':k=K.findIdx (fun c=>c.id == id)
 ·have:=List.findIdx_getElem (p:=fun c:Kn=>c.id == id) (xs:=K) (w:=by rw[<-e'];exact h);exact absurd (by simpa[<-e'] using this) e
 ·omega
theorem z1t(h:K.length<=K.findIdx (fun c=>c.id == id)):fK K id = -1:=by unfold fK;rw[if_neg (by omega)]
theorem zh0(h:fK K id≠-1):∃i,∃h:i<K.length,fK K id=i/\K[i].id=id:=by
 unfold fK at h ⊢;by_cases e:K.findIdx (fun c=>c.id == id)<K.length
 ·rw[if_pos e];exact⟨_,e,rfl,by simpa using List.findIdx_getElem (p:=fun c:Kn=>c.id == id) (xs:=K) (w:=e)⟩
 ·rw[if_neg e]at h;exact absurd rfl h
end
theorem zb8{w:World}(now nx id:Int){aT aO aP aL aK:Option Addr}{nT cT nO cO nP cP nL cL cK:Nat}{K:List Kn}(hK:Kw w aK K)(mK:K.length<=maxLen):
 Calls Tryz.prog 49 #[zcf now aT nT cT aO nO cO aP nP cP aL nL cL aK K.length cK nx,.int .i64 id] w fun e w'=>e=.returned (.int .i64 (fK K id))/\Bw w w':=by
 have hm:(K.length:Int)<=9223372036854775807:=by unfold maxLen at mK;omega
 obtain⟨v,hv,L0,nb⟩:=newE w 31 now aT nT cT aO nO cO aP nP cP aL nL cL aK K.length cK nx;go_enter Tryz.func49,Tryz.ntmps49;go_upto_region 1 with (fail);rw[<-hv];clear hv;have c5:v.cell? ⟨w.heap.size,5,none⟩=some (.slice aK K.length cK):=L0.cell 5 _ rfl;go_wp2;go_loop [5] (fun i=>∃k:Nat,i=.int .i64 k/\k<=K.length/\k<=K.findIdx (fun c=>c.id == id)) (fun i=>K.length-(intOf i).toNat);case atStart=>exact⟨0,rfl,by omega,by omega⟩
 case round =>
  obtain⟨k,rfl,hk,hf⟩:=hrel;have HF:Hid (k<=K.findIdx (fun c=>c.id == id)):=hf;clear hf;by_cases hlt:k<K.length
  ·obtain⟨b,off,sa,sc,rfl,hbl,c0,_,_⟩:=hK.at nb k hlt;have hlt':(k:Int)<(K.length:Int):=(by omega);have d0:v.cell? ⟨b,off+k*14,none⟩=some (.int .i64 K[k].id):=c0 0 _ rfl;have HC:Hid (K[k].id=K[k].id):=rfl;obtain⟨x,hx⟩:∃x,K[k].id=x:=⟨_,rfl⟩;have HX:Hid (K[k].id=x):=hx;rw[hx]at d0;clear hx c0 HC;by_cases he:x=id
   ·subst he;go_wp2;go_ret;exact⟨congrArg (fun y=>Ending.returned (.int .i64 y)) (fK_at hlt HF.out HX.out).symm,nb⟩
   ·have he':(x == id)=false:=(by simp[he]);have HS:Hid (k+1<=K.findIdx (fun c=>c.id == id)):=z1s hlt HF.out (by rw[HX.out];exact he);go_wp2;go_round;case rel=>exact⟨k+1,by go_num,by omega,HS.out⟩
    case measure=>simp[intOf]<;>omega
  ·have e:k=K.length:=(by omega);subst e;go_wp2;go_ret;exact⟨congrArg (fun y=>Ending.returned (.int .i64 y)) (z1t HF.out).symm,nb⟩
theorem Lay.block{u u':World}{b:Nat}{vs:List Value}(h:Lay u b vs)(hs:u.heap.size<=u'.heap.size)(hb:u'.heap[b]?=u.heap[b]?):Lay u' b vs :=
 ⟨fun j v hv=>(World.cell?_of_block (a:=⟨b,j,none⟩) hb).trans (h.cell j v hv),fun o=>(World.frozen?_of_block (a:=⟨b,o,none⟩) hb).trans (h.free o),nlt h.lt hs⟩
theorem ze3{w:World}{base:Nat}{e:TypeId}{s n:Nat}{v:Value}{xs:List Value}(h:w.ownsRow base e s v n xs)(hn:1<=n):∃g cap,v=.slice (some ⟨g,0,none⟩) n cap/\base<=g/\g<w.heap.size:=by
 rcases h.2 with⟨rfl,h0⟩|⟨g,cap,cur,rfl,hb,_⟩
 ·omega
 ·exact⟨g,cap,rfl,hb,(h.lt g rfl).2⟩
structure T2St (B:Nat) (a0:Option Addr) (len cap b:Nat) (w wr:World) (v:Value) (T:List Q4) (u:Value) (S:List Int):Prop where
 st:TSt B a0 len cap b w wr v T
 sp:wr.ownsRow w.heap.size 2 1 u S.length (zbc S)
section
variable {B:Nat} {a0:Option Addr} {len cap b:Nat} {w wr:World} {v u:Value} {T:List Q4} {S:List Int}
theorem T2St.draw(d:T2St B a0 len cap b w wr v T u S){w2:World}(o:Only b wr w2)(k:Cur B a0 len cap b w2):T2St B a0 len cap b w w2 v T u S:=⟨d.st.draw o k,zty d.sp o d.st.lt⟩
theorem T2St.next(d:T2St B a0 len cap b w wr v T u S){w2:World}(h:Bw wr w2):T2St B a0 len cap b w w2 v T u S:=⟨d.st.next h,zbd d.sp h⟩
theorem T2St.cells{g c:Nat}(d:T2St B a0 len cap b w wr v T (.slice (some ⟨g,0,none⟩) S.length c) S){p:Nat}(hp:p<S.length):wr.cell? ⟨g,p,none⟩=some (.int .i64 S[p])/\wr.frozen? ⟨g,p,none⟩=false :=
 ⟨(d.sp.cellAt p (by omega)).trans (zzn hp),d.sp.frozenAt p⟩
theorem T2St.ceil{g c:Nat}(d:T2St B a0 len cap b w wr (.slice (some ⟨g,0,none⟩) T.length c) T u S){p:Nat}(hp:p<T.length):wr.cell? ⟨g,p*4+2,none⟩=some (.int .i64 T[p].2.2.1) :=
 (d.st.own.cellAt _ (by omega)).trans (zia T p hp).2.2.1
theorem T2St.put{g c:Nat}(d:T2St B a0 len cap b w wr v T (.slice (some ⟨g,0,none⟩) S.length c) S)(hg:w.heap.size<=g)(p:Nat)(x:Int):T2St B a0 len cap b w (wr.setCell ⟨g,p,none⟩ (.int .i64 x)) v T (.slice (some ⟨g,0,none⟩) (S.set p x).length c) (S.set p x):=by
 have h:=d.sp.stored p (.int .i64 x);have hs:(wr.setCell ⟨g,p,none⟩ (.int .i64 x)).ownsRow w.heap.size 2 1 (.slice (some ⟨g,0,none⟩) (S.set p x).length c) (S.set p x).length (zbc (S.set p x)):=by rw[List.length_set,<-zxf];exact h.1
 refine⟨d.st.list ((brf _ _).setCell (p:=⟨g,p,none⟩) hg _) (d.st.own.kept h.2 ?_),hs⟩;exact zb7 d.st.own d.sp (by decide)
theorem T2St.app(d:T2St B a0 len cap b w wr v T u S){w':World}{v':Value}{x:Q4}(hg:wr.grownBy w' v.ownBlock)(ho:w'.ownsRow w.heap.size 110 4 v' (T.length+1) (za5 T ++ za5 [x])):T2St B a0 len cap b w w' v' (T ++ [x]) u S :=
 ⟨d.st.list (d.st.below hg (fun g e=>(d.st.own.lt g e).1)) (by rw[zgw,List.length_append];exact ho),d.sp.kept hg (zb7 d.sp d.st.own (by decide))⟩
theorem T2St.appI(d:T2St B a0 len cap b w wr v T u S){w':World}{u':Value}{x:Int}(hg:wr.grownBy w' u.ownBlock)(ho:w'.ownsRow w.heap.size 2 1 u' (S.length+1) (zbc S ++ zbc [x])):T2St B a0 len cap b w w' v T u' (S ++ [x]) :=
 ⟨d.st.list (d.st.below hg (fun g e=>(d.sp.lt g e).1)) (d.st.own.kept hg (zb7 d.st.own d.sp (by decide))),by rw[zbx,List.length_append];exact ho⟩
end
theorem zvn{B:Nat}{a0:Option Addr}{len cap b:Nat}{w:World}(k:Cur B a0 len cap b w):
 Calls Tryz.prog 142 #[.pointer (some ⟨b,0,none⟩)] w (fun e w'=>∃a n c T,e=.returned (.slice a n c)/\TSt B a0 len cap b w w' (.slice a n c) T/\(1<=T.length/\T.length<=8)):=by
 obtain⟨i0,hi,hz0,hz1,hz2⟩:=info_parts zhb;obtain⟨j0,hj,jz0,jz1,jz2⟩:=info_parts zg9;have hlt:=k.hi;go_enter Tryz.func142,Tryz.ntmps142;go_upto_region 2 with (first| (go_at_call 35;have g1:=x1q;refine (zar _ k1 o1 (by omega) (by omega)).mono ?_;rintro e w2 ⟨x2,rfl,hx2,k2,o2⟩)| (go_at_call 35;refine (zar _ k (Only.refl _ _) (by omega) (by omega)).mono ?_;rintro e w1 ⟨x1,rfl,hx1,k1,o1⟩;have x1q:=hx1));obtain⟨R,hR⟩:∃R,100000+x1=R:=⟨_,rfl⟩;obtain⟨U,hU⟩:∃U,1500+x2=U:=⟨_,rfl⟩;rw[hR,hU];have hR0:100000<=R:=by omega
 have hR1:R<=1100000:=by omega
 clear hR hU hx1 hx2 x1q;have zw:=o2.size;have D:Hid (TSt B a0 len cap b w (w2.alloc (.cells #[.int .i64 (-1),.int .i64 R,.int .i64 0,.int .i64 U] 110)) (.slice (some ⟨w2.heap.size,0,none⟩) 1 1) [(-1,R,0,U)]) :=
  ⟨k2.alloc _,o2.alloc _,hlt,zql w2 w.heap.size zw _ _ _ _⟩
 clear k1 o1 k2 o2;obtain⟨v2,hv2⟩:∃v2,w2.alloc (.cells #[.int .i64 (-1),.int .i64 R,.int .i64 0,.int .i64 U] 110)=v2:=⟨_,rfl⟩;rw[hv2]at D ⊢;have zv:w2.heap.size<v2.heap.size:=by rw[<-hv2];simp
 obtain⟨g,hg⟩:∃g,w2.heap.size=g:=⟨_,rfl⟩;rw[hg]at D zv zw ⊢;clear hg hv2;have cR:v2.cell? ⟨g,1,none⟩=some (.int .i64 R):=D.out.own.cellAt 1 (by decide);go_cut [] from 16 to 25 (fun wd=>∃y,(0<=y/\y<500000)/\TSt B a0 len cap b w wd (.slice (some ⟨g,0,none⟩) 1 1) [(-1,R,R+y,U)]);case first =>
  go_region_held3 (fun w'=>w'.cell? ⟨g,1,none⟩=some (.int .i64 R)) (first|assumption|(simp only[World.cell?_drew];assumption)|(exact (zak (by decide)).trans (by assumption))|go_keep)
   (first| (go_at_call 35;refine (zar 500000 (D.out.next (by go_grown)).cur (Only.refl _ _) (by omega) (by omega)).mono ?_;rintro e vB ⟨y,rfl,hy,kB,oB⟩;have DB:Hid (TSt B a0 len cap b w vB (.slice (some ⟨g,0,none⟩) 1 1) [(-1,R,0,U)]):=(D.out.next (by go_grown)).draw oB kB;have j0':vB.cell? ⟨g,1,none⟩=some (.int .i64 R):=DB.out.own.cellAt 1 (by decide);have j2':vB.cell? ⟨g,2,none⟩=some (.int .i64 0):=DB.out.own.cellAt 2 (by decide);have jF:vB.frozen? ⟨g,2,none⟩=false:=DB.out.own.frozenAt 2;have e1:IntKind.i64.wrap (R+y)=R+y:=i64w))
  (all_goals (repeat go_step));(all_goals go_meet);all_goals exact⟨y,hy,DB.out.list ((brf _ _).setCell (p:=⟨g,2,none⟩) zw _) (DB.out.own.stored 2 _).1⟩
 case rest =>
  clear D cR;obtain⟨y,hy,d⟩:=hcut;have D:Hid (TSt B a0 len cap b w wc (.slice (some ⟨g,0,none⟩) 1 1) [(-1,R,R+y,U)]):=d;have cR:wc.cell? ⟨g,1,none⟩=some (.int .i64 R):=d.own.cellAt 1 (by decide);have zc:=d.only.size;clear d;go_upto_region 4 with (fail);have D2:Hid (T2St B a0 len cap b w (wc.alloc (.cells #[.int .i64 R] 2)) (.slice (some ⟨g,0,none⟩) 1 1) [(-1,R,R+y,U)] (.slice (some ⟨wc.heap.size,0,none⟩) 1 1) [R]) :=
   ⟨D.out.next (zad _ _),zvm wc w.heap.size zc R⟩
  have HD:Hid (DOk [(-1,R,R+y,U)] [R]):=DOk.one (by omega) (by omega) (by omega);clear D;go_wp2_with (first| (go_at_call 35;refine (zar _ D2.out.st.cur (Only.refl _ _) (by omega) (by omega)).mono ?_;rintro e w4 ⟨x4,rfl,hx4,k4,o4⟩;have D3:Hid (T2St B a0 len cap b w w4 (.slice (some ⟨g,0,none⟩) 1 1) [(-1,R,R+y,U)] (.slice (some ⟨wc.heap.size,0,none⟩) 1 1) [R]):=D2.out.draw o4 k4));go_loopw [3,4,5] (fun vo vs s wr=>∃(j:Nat) (T:List Q4) (S:List Int),s=.int .i64 j/\T.length+j<=8/\Hid (DOk T S)/\Hid (T2St B a0 len cap b w wr vo T vs S)) (fun _ _ s _=>(intOf s).toNat);case atStart=>exact⟨x4.toNat,_,_,by rw[Int.toNat_of_nonneg hx4.1],by simp;omega,HD,D3⟩
  case round =>
   clear D2 D3 HD cR hy hx4 k4 o4;obtain⟨j,T,S,rfl,hjl,HD,D⟩:=hrel;have hT1:=HD.out.2.1;obtain⟨go,co,rfl,hgo,hgo'⟩:=ze3 D.out.st.own hT1;have hS1:1<=S.length:=(by rw[HD.out.1];exact hT1);obtain⟨gs,cs,rfl,hgs,hgs'⟩:=ze3 D.out.sp hS1;cases j with
   | zero =>go_wp2;go_ret;exact⟨_,_,_,T,rfl,D.out.st,hT1,by omega⟩
   | succ j =>
    have hj0:(0:Int)<(j:Int)+1:=(by omega);have hT1':(1:Int)<=(T.length:Int):=(by omega);have hTn:(T.length:Int)<=8:=(by omega);go_upto_region 8 with (first| (go_at_call 35;refine (zar _ D.out.st.cur (Only.refl _ _) (by omega) (by omega)).mono ?_;rintro e v1 ⟨xp,rfl,hxp,k1,o1⟩;have D1:Hid (T2St B a0 len cap b w v1 (.slice (some ⟨go,0,none⟩) T.length co) T (.slice (some ⟨gs,0,none⟩) S.length cs) S):=D.out.draw o1 k1));obtain⟨p,rfl⟩:=Int.eq_ofNat_of_zero_le hxp.1;have hp:p<T.length:=(by omega);have hp':p<S.length:=(by rw[HD.out.1];exact hp);have hpS:(p:Int)<(S.length:Int):=(by omega);have hpT:(p:Int)<(T.length:Int):=(by omega);have hnum:=HD.out.2.2 p hp hp';obtain⟨s,hs⟩:∃s,S[p]=s:=⟨_,rfl⟩;obtain⟨c,hc⟩:∃c,T[p].2.2.1=c:=⟨_,rfl⟩;have HS:Hid (S[p]=s):=hs;have HC:Hid (T[p].2.2.1=c):=hc;rw[hs,hc]at hnum;clear hs hc;have n0:=hnum.1;have n1:=hnum.2.1;have n2:=hnum.2.2;clear hnum hxp;have c1:=(D1.out.cells hp').1;rw[HS.out]at c1;go_upto_region 9 with (first| (go_at_call 35;refine (zar _ D1.out.st.cur (Only.refl _ _) (by omega) (by omega)).mono ?_;rintro e v2 ⟨r,rfl,hr,k2,o2⟩;have D2:Hid (T2St B a0 len cap b w v2 (.slice (some ⟨go,0,none⟩) T.length co) T (.slice (some ⟨gs,0,none⟩) S.length cs) S):=D1.out.draw o2 k2));go_upto_if 49 with (first| (go_at_call 36;refine (zh8 _ D2.out.st.cur (Only.refl _ _) (by omega) (by omega)).mono ?_;rintro e v3 ⟨f,rfl,k3,o3⟩;have D3:Hid (T2St B a0 len cap b w v3 (.slice (some ⟨go,0,none⟩) T.length co) T (.slice (some ⟨gs,0,none⟩) S.length cs) S):=D2.out.draw o3 k3));have c3:=(D3.out.cells hp').1;rw[HS.out]at c3;go_cut [7] from 50 to 54 (fun q wd=>wd=v3/\∃r:Int,q=.int .i64 r/\0<=r/\r<=s);case first =>
     cases f
     ·go_wp2;go_meet;exact⟨rfl,r,rfl,hr.1,by omega⟩
     ·go_wp2;go_meet;exact⟨rfl,s/2,rfl,by omega,by omega⟩
    case rest =>
     obtain⟨hwv,q,rfl,q0,q1⟩:=hcut;subst hwv;clear D D1 D2 hr c1 k1 o1 k2 o2 k3 o3;have cF:=(D3.out.cells hp').2;go_upto_region 12 with (fail);have D4:Hid (T2St B a0 len cap b w (wc.setCell ⟨gs,p,none⟩ (.int .i64 (s-q))) (.slice (some ⟨go,0,none⟩) T.length co) T (.slice (some ⟨gs,0,none⟩) S.length cs) (S.set p (s-q))):=(by have h:=D3.out.put hgs p (s-q);rw[List.length_set]at h;exact h);obtain⟨v4,hv4⟩:∃v4,wc.setCell ⟨gs,p,none⟩ (.int .i64 (s-q))=v4:=⟨_,rfl⟩;rw[hv4]at D4 ⊢;clear hv4 D3 c3 cF;have c4:=D4.out.ceil hp;rw[HC.out]at c4;go_upto_region 13 with (first| (go_at_call 35;have g1:=m5;refine (zar _ D5.out.st.cur (Only.refl _ _) (by omega) (by omega)).mono ?_;rintro e v6 ⟨z,rfl,hz,k6,o6⟩;have D6:Hid (T2St B a0 len cap b w v6 (.slice (some ⟨go,0,none⟩) T.length co) T (.slice (some ⟨gs,0,none⟩) S.length cs) (S.set p (s-q))):=D5.out.draw o6 k6)| (go_at_call 35;refine (zar _ D4.out.st.cur (Only.refl _ _) (by omega) (by omega)).mono ?_;rintro e v5 ⟨x,rfl,hx,k5,o5⟩;have D5:Hid (T2St B a0 len cap b w v5 (.slice (some ⟨go,0,none⟩) T.length co) T (.slice (some ⟨gs,0,none⟩) S.length cs) (S.set p (s-q))):=D4.out.draw o5 k5;have m5:=hx)| (at_builtin;refine wpList_append_own _ rfl _ _ 24 rfl w.heap.size 110 i0 _ 4 32 Tryz.underlying24 hi hz0 hz1 hz2 rfl (by decide) _ _ _ rfl (D6.out.st.own.alloc _) ⟨v6.heap.size,0,none⟩ 1 1 [.int .i64 (p:Int),.int .i64 q,.int .i64 (q+x),.int .i64 (1500+z)] rfl rfl ?c1 ?c2 ?c3 ?c4 ?c5 ?c6;rotate_left 5;intro v' w' hown' hgr hnil));case c1=>exact zxg (by go_simp) (by go_simp) (by go_simp) (by go_simp)
     case c2=>exact zc6 [((p:Int),q,q+x,1500+z)]
     case c3=>unfold maxLen;omega
     case c4=>omega
     case c5=>have:=D6.out.st.only.size;simp;omega
     have D7:Hid (T2St B a0 len cap b w w' v' (T ++ [((p:Int),q,q+x,1500+z)]) (.slice (some ⟨gs,0,none⟩) S.length cs) (S.set p (s-q))):=(D6.out.next (zad _ _)).app hgr hown';obtain⟨a',c',rfl⟩:=za2 hown';have HD2:Hid (DOk (T ++ [((p:Int),q,q+x,1500+z)]) (S.set p (s-q) ++ [q])):=(by have h:=HD.out.more hp hp' (r:=q) (x:=x) (z:=1500+z) q0 (by rw[HS.out];exact q1) hx.1 (by omega);rw[HS.out]at h;exact h);have hSl:(S.set p (s-q)).length<=8:=(by rw[List.length_set,HD.out.1];omega);have hw7:=D7.out.st.only.size;clear D4 D5 D6 k5 o5 k6 o6 m5 c4 hgr hnil hown';go_wp2_with (first| (at_builtin;refine wpList_append_own _ rfl _ _ 45 rfl w.heap.size 2 j0 _ 1 8 Tryz.underlying45 hj jz0 jz1 jz2 rfl (by decide) _ _ _ rfl (D7.out.sp.alloc _) ⟨w'.heap.size,0,none⟩ 1 1 [.int .i64 q] rfl rfl ?d1 ?d2 ?d3 ?d4 ?d5 ?d6;rotate_left 5;intro u' w8 hown8 hgr8 hnil8));case d1=>exact zen (by go_simp)
     case d2=>exact zdl [q]
     case d3=>unfold maxLen;omega
     case d4=>omega
     case d5=>simp;omega
     have D8:=(D7.out.next (zad _ (.cells #[.int .i64 q] 2))).appI hgr8 hown8;go_roundw;case rel=>exact⟨j,_,_,by go_num,by simp;omega,HD2,D8⟩
     case measure=>simp[intOf]<;>omega
section
variable{w:World}
theorem zua{base:Nat}{a:Option Addr}{c:Nat}{t:TypeId}{T:List Q4}(h:w.ownsRow base t 4 (.slice a T.length c) T.length (za5 T)):Qw w a T:=by
 by_cases hn:(Value.slice a T.length c)=.slice none 0 0
 ·injection hn with h1 h2 h3;obtain rfl:T=[]:=List.eq_nil_of_length_eq_zero h2;exact Quad.nil _ _ _
 ·obtain⟨g,cap,e,_,h2,f,_⟩:=zp3 h hn;injection e with e1 _ _;subst e1;exact f.quad h2
section
variable{aT1 aO1 aP1 aT2 aO2 aP2:Option Addr}(cT1 cO1 cP1 cT2 cO2 cP2:Nat)
theorem zn0{T O P:List Q4}(hT1:Qw w aT1 T)(hO1:Qw w aO1 O)(hP1:Qw w aP1 P)(hT2:Qw w aT2 T)(hO2:Qw w aO2 O)(hP2:Qw w aP2 P)(lT:T.length<=1000000)(lO:O.length<=1000000)(lP:P.length<=1000000):
 Calls Tryz.prog 55 #[zea aT1 T.length cT1 aO1 O.length cO1 aP1 P.length cP1,zea aT2 T.length cT2 aO2 O.length cO2 aP2 P.length cP2] w fun e w'=>e=.returned (.bool true)/\Bw w w':=by
 have iT:(T.length:Int)<=1000000:=by omega
 have iO:(O.length:Int)<=1000000:=by omega
 have iP:(P.length:Int)<=1000000:=by omega
 obtain⟨v,hv⟩:∃v,v=(w.alloc (.cells #[.slice aT1 T.length cT1,.slice aO1 O.length cO1,.slice aP1 P.length cP1] 27)).alloc (.cells #[.slice aT2 T.length cT2,.slice aO2 O.length cO2,.slice aP2 P.length cP2] 27):=⟨_,rfl⟩;have hbv:Bw w v:=by rw[hv];go_grown
 have hvz:w.heap.size+2<=v.heap.size:=by rw[hv];simp
 have HX:Hid (∀w',Bw v w'->w'.cell? ⟨w.heap.size,0,none⟩=some (.slice aT1 T.length cT1)/\w'.cell? ⟨w.heap.size,1,none⟩=some (.slice aO1 O.length cO1)/\w'.cell? ⟨w.heap.size,2,none⟩=some (.slice aP1 P.length cP1)/\w'.cell? ⟨w.heap.size+1,0,none⟩=some (.slice aT2 T.length cT2)/\w'.cell? ⟨w.heap.size+1,1,none⟩=some (.slice aO2 O.length cO2)/\w'.cell? ⟨w.heap.size+1,2,none⟩=some (.slice aP2 P.length cP2)):=fun w' h=>by have c:∀b o:Nat,b<v.heap.size->w'.cell? ⟨b,o,none⟩=v.cell? ⟨b,o,none⟩:=fun b o hb=>h.cell (p:=⟨b,o,none⟩) hb;refine⟨(c _ 0 (by omega)).trans ?_,(c _ 1 (by omega)).trans ?_,(c _ 2 (by omega)).trans ?_,(c _ 0 (by omega)).trans ?_,(c _ 1 (by omega)).trans ?_,(c _ 2 (by omega)).trans ?_⟩<;>rw[hv]<;>go_simp
 have ⟨x0,x1,x2,y0,y1,y2⟩:=HX.out v (brf _ _);go_enter Tryz.func55,Tryz.ntmps55;go_upto_region 1 with (fail);rw[<-hv];clear hv;go_wp2;clear x0 x1 x2 y0 y1 y2;go_loopw [5] (fun i wr=>∃k:Nat,i=.int .i64 k/\k<=T.length/\Hid (Bw v wr)) (fun i _=>T.length-(intOf i).toNat);case atStart=>exact⟨0,rfl,by omega,brf _ _⟩
 case round =>
  obtain⟨k,rfl,hk,HBT⟩:=hrel;have ⟨x0,x1,x2,y0,y1,y2⟩:=HX.out wr HBT.out;by_cases hlt:k<T.length
  ·have hlt':(k:Int)<(T.length:Int):=(by omega);have hbw:=zag hbv HBT.out;obtain⟨b1,o1,rfl,hb1,d0,d1,d2,d3⟩:=hT1.at hbw k hlt;obtain⟨b2,o2,rfl,hb2,e0,e1,e2,e3⟩:=hT2.at hbw k hlt;obtain⟨z,hz⟩:∃z,T[k]=z:=⟨_,rfl⟩;rw[hz]at d0 d1 d2 d3 e0 e1 e2 e3;clear hz;obtain⟨p,q,r,s⟩:=z;simp only at d0 d1 d2 d3 e0 e1 e2 e3;go_upto_region 6 with (fail);go_quiet (fail);go_wp2;go_roundw;case rel=>exact⟨k+1,by go_num,by omega,zan HBT.out _⟩
   case measure=>simp[intOf]<;>omega
  ·have hlt':¬(k:Int)<(T.length:Int):=(by omega);go_wp2;clear x0 x1 x2 y0 y1 y2;go_loopw [6] (fun i wr=>∃k:Nat,i=.int .i64 k/\k<=O.length/\Hid (Bw v wr)) (fun i _=>O.length-(intOf i).toNat);case atStart=>exact⟨0,rfl,by omega,HBT⟩
   case round =>
    obtain⟨k,rfl,hk,HBO⟩:=hrel;have ⟨x0,x1,x2,y0,y1,y2⟩:=HX.out wr HBO.out;by_cases hlt:k<O.length
    ·have hlt':(k:Int)<(O.length:Int):=(by omega);have hbw:=zag hbv HBO.out;obtain⟨b1,o1,rfl,hb1,d0,d1,d2,d3⟩:=hO1.at hbw k hlt;obtain⟨b2,o2,rfl,hb2,e0,e1,e2,e3⟩:=hO2.at hbw k hlt;obtain⟨z,hz⟩:∃z,O[k]=z:=⟨_,rfl⟩;rw[hz]at d0 d1 d2 d3 e0 e1 e2 e3;clear hz;obtain⟨p,q,r,s⟩:=z;simp only at d0 d1 d2 d3 e0 e1 e2 e3;go_upto_region 11 with (fail);go_quiet (fail);go_wp2;go_roundw;case rel=>exact⟨k+1,by go_num,by omega,zan HBO.out _⟩
     case measure=>simp[intOf]<;>omega
    ·have hlt':¬(k:Int)<(O.length:Int):=(by omega);go_wp2;clear x0 x1 x2 y0 y1 y2;go_loopw [7] (fun i wr=>∃k:Nat,i=.int .i64 k/\k<=P.length/\Hid (Bw v wr)) (fun i _=>P.length-(intOf i).toNat);case atStart=>exact⟨0,rfl,by omega,HBO⟩
     case round =>
      obtain⟨k,rfl,hk,HBP⟩:=hrel;have ⟨x0,x1,x2,y0,y1,y2⟩:=HX.out wr HBP.out;by_cases hlt:k<P.length
      ·have hlt':(k:Int)<(P.length:Int):=(by omega);have hbw:=zag hbv HBP.out;obtain⟨b1,o1,rfl,hb1,d0,d1,d2,d3⟩:=hP1.at hbw k hlt;obtain⟨b2,o2,rfl,hb2,e0,e1,e2,e3⟩:=hP2.at hbw k hlt;obtain⟨z,hz⟩:∃z,P[k]=z:=⟨_,rfl⟩;rw[hz]at d0 d1 d2 d3 e0 e1 e2 e3;clear hz;obtain⟨p,q,r,s⟩:=z;simp only at d0 d1 d2 d3 e0 e1 e2 e3;go_upto_region 16 with (fail);go_quiet (fail);go_wp2;go_roundw;case rel=>exact⟨k+1,by go_num,by omega,zan HBP.out _⟩
       case measure=>simp[intOf]<;>omega
      ·have hlt':¬(k:Int)<(P.length:Int):=(by omega);go_wp2;go_ret;exact⟨rfl,zag hbv HBP.out⟩
theorem zxl{nT nO nP:Nat}:
 Calls Tryz.prog 55 #[zea aT1 0 cT1 aO1 0 cO1 aP1 0 cP1,zea aT2 nT cT2 aO2 nO cO2 aP2 nP cP2] w fun e w'=>(∃f:Bool,e=.returned (.bool f))/\Bw w w':=by
 by_cases hT:nT=0
 ·by_cases hO:nO=0
  ·by_cases hP:nP=0
   ·subst hT hO hP;exact (zn0 (T:=[]) (O:=[]) (P:=[]) cT1 cO1 cP1 cT2 cO2 cP2 (Quad.nil _ _ _) (Quad.nil _ _ _) (Quad.nil _ _ _) (Quad.nil _ _ _) (Quad.nil _ _ _) (Quad.nil _ _ _) (by decide) (by decide) (by decide)).mono (fun e w' h=>⟨⟨_,h.1⟩,h.2⟩)
   ·subst hT hO;have h1:¬((0:Int)=(nP:Int)):=(by omega);go_enter Tryz.func55,Tryz.ntmps55;go_wp2;go_ret;exact⟨⟨_,rfl⟩,by go_grown⟩
  ·subst hT;have h1:¬((0:Int)=(nO:Int)):=(by omega);go_enter Tryz.func55,Tryz.ntmps55;go_wp2;go_ret;exact⟨⟨_,rfl⟩,by go_grown⟩
 ·have h1:¬((0:Int)=(nT:Int)):=(by omega);go_enter Tryz.func55,Tryz.ntmps55;go_wp2;go_ret;exact⟨⟨_,rfl⟩,by go_grown⟩
end
theorem z1u(now nx:Int){aT aO aP aL aK bT bO bP bL bK:Option Addr}(cT cO cP cL cK dT dO dP dL dK:Nat){nT nO nP nL nK:Nat}(hK:nK≠0):
 Calls Tryz.prog 12 #[zcf 0 aT 0 cT aO 0 cO aP 0 cP aL 0 cL aK 0 cK 0,zcf now bT nT dT bO nO dO bP nP dP bL nL dL bK nK dK nx] w fun e w'=>e=.returned (.bool false)/\Bw w w':=by
 obtain⟨v,hv,nb,L0,L1⟩:=z1p w 31 [.int .i64 0,.slice aT 0 cT,.slice aO 0 cO,.slice aP 0 cP,.slice aL 0 cL,.slice aK 0 cK,.int .i64 0] [.int .i64 now,.slice bT nT dT,.slice bO nO dO,.slice bP nP dP,.slice bL nL dL,.slice bK nK dK,.int .i64 nx];have hk:¬((0:Int)=(nK:Int)):=by omega
 go_enter Tryz.func12,Tryz.ntmps12;go_upto_region 1 with (fail);rw[<-hv];clear hv;obtain⟨p0,p1,p2,p3,p4,p5,p6⟩:=L0.c7;obtain⟨r0,r1,r2,r3,r4,r5,r6⟩:=L1.c7;by_cases hn:(0:Int)=now
 ·subst hn;by_cases hL:nL=0
  ·subst hL;go_wp2_with (first|(go_at_call 55;refine (zxl cT cO cP dT dO dP).mono ?_;rintro e v2 ⟨⟨f,rfl⟩,hb2⟩;have b2:=zaa nb hb2;have M0:=L0.next hb2;have M1:=L1.next hb2;clear p0 p1 p2 p3 p4 p5 p6 r0 r1 r2 r3 r4 r5 r6;obtain⟨p0,p1,p2,p3,p4,p5,p6⟩:=M0.c7;obtain⟨r0,r1,r2,r3,r4,r5,r6⟩:=M1.c7;cases f));all_goals (go_ret;exact⟨rfl,b2⟩)
  ·have hl:¬((0:Int)=(nL:Int)):=(by omega);go_wp2_with (first|(go_at_call 55;refine (zxl cT cO cP dT dO dP).mono ?_;rintro e v2 ⟨⟨f,rfl⟩,hb2⟩;have b2:=zaa nb hb2;have M0:=L0.next hb2;have M1:=L1.next hb2;clear p0 p1 p2 p3 p4 p5 p6 r0 r1 r2 r3 r4 r5 r6;obtain⟨p0,p1,p2,p3,p4,p5,p6⟩:=M0.c7;obtain⟨r0,r1,r2,r3,r4,r5,r6⟩:=M1.c7;cases f));all_goals (go_ret;exact⟨rfl,b2⟩)
 ·go_wp2;go_ret;exact⟨rfl,nb⟩
end
end Go.Proofs.YthiojkjcmhojoaaGreat
