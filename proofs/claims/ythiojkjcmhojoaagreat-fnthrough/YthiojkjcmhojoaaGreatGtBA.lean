import Derived.Test.YthiojkjcmhojoaaGreatGtAY
import Derived.Test.YthiojkjcmhojoaaGreatGtAN
import Derived.Shelf.Abstract
namespace Go.Proofs.YthiojkjcmhojoaaGreat
set_option maxHeartbeats 8000000
open Go.ChangeShapes Go.WideShapes Go.ChangeAt Go.RowKit
set_option maxRecDepth 100000
set_option linter.all false
theorem zuw(c:Kn)(sa:Option Addr)(sc:Nat)(id:Int)(w:World):
 Calls Tryz.prog 107 #[.agg #[.int .i64 c.id,.int .i64 c.lf,.int .i64 c.pl,.int .i64 c.k,.int .i64 c.wn,.int .i64 c.th,.int .i64 c.fl,.int .i64 c.ac,.int .i64 c.la,.int .i64 c.og,.int .i64 c.st,.int .i64 c.fr,.bool c.sl,.slice sa c.xs.length sc],.int .i64 id] w fun e w'=>e=.returned (.int .i64 (zsv c.id id))/\Bw w w':=by
 go_enter Tryz.func107,Tryz.ntmps107;go_wp2_with (first|(go_at_call 108;refine same1 (zsw _ _ _) ?_));go_ret;exact⟨rfl,by go_grown⟩
theorem zux{x y:Int}(h:x<y):zsv x y = -1:=by unfold zsv;rw[if_pos h]
theorem zuy{x y:Int}(h:y<x):zsv x y=1:=by unfold zsv;rw[if_neg (by omega),if_pos h]
theorem zq3{x y:Int}(h:x=y):zsv x y=0:=by unfold zsv;rw[if_neg (by omega),if_neg (by omega)]
def zuz(K:List Kn)(id:Int)(w:World)(e:Ending)(w':World):Prop:=∃(p:Nat) (f:Bool),e=.returned (.tuple #[.int .i64 p,.bool f])/\p<=K.length/\(∀k (h:k<K.length),k<p->K[k].id<id)/\(∀k (h:k<K.length),p<=k->id<=K[k].id)/\(f=true ↔ ∃h:p<K.length,K[p].id=id)/\Bw w w'
section
variable{w:World}{a:Option Addr}(cap:Nat){K:List Kn}(id:Int)
theorem zv3(h:Kw w a K)(hl:K.length<=40)(hr:∀i j (h1:i<K.length) (h2:j<K.length),i<j->K[i].id<K[j].id):
 Calls Tryz.prog 106 #[.slice a K.length cap,.int .i64 id,.func (.func 107) #[] #[]] w (zuz K id w):=by
 have eg:∀args w,(callFunc 107 args).run Tryz.prog w=.ok (.enter 107 args) w:=enters_of Tryz.func107 (by kernel_rfl) rfl;have hl':(K.length:Int)<=40:=by omega
 have HR:Hid (∀i j (h1:i<K.length) (h2:j<K.length),i<j->K[i].id<K[j].id):=hr;clear hr;go_enter Tryz.func106,Tryz.ntmps106;go_wp2;go_loopw [9,10] (fun s t wr=>∃i j:Nat,s=.int .i64 i/\t=.int .i64 j/\i<=j/\j<=K.length/\Hid (∀k (h:k<K.length),k<i->K[k].id<id)/\Hid (∀k (h:k<K.length),j<=k->id<=K[k].id)/\Bw w wr) (fun s t _=>(intOf t).toNat-(intOf s).toNat);case atStart=>exact⟨0,K.length,rfl,rfl,by omega,by omega,(fun k h hk=>by omega),(fun k h hk=>by omega),brf _ _⟩
 case round =>
  obtain⟨i,j,rfl,rfl,hij,hj,HA,HB,hbw⟩:=hrel;by_cases hlt:i<j
  ·have hlt':(i:Int)<(j:Int):=(by omega);go_upto_region 5 with (fail);obtain⟨m,hm⟩:∃m:Nat,((i:Int)+(j:Int))/2=(m:Int):=⟨(i+j)/2,by omega⟩;have hm1:i<=m/\m<j:=(by omega);rw[hm];clear hm;have hmK:m<K.length:=(by omega);have hmi:(m:Int)<(K.length:Int):=(by omega);obtain⟨b,off,sa,sc,hak,hbl,d0,d13,sm⟩:=h.at hbw m hmK;subst hak;obtain⟨c,hc⟩:∃c,K[m]=c:=⟨_,rfl⟩;have HX:Hid (K[m]=c):=hc;rw[hc]at d0 d13 sm;clear hc;have e0:wr.cell? ⟨b,off+m*14,none⟩=some (.int .i64 c.id):=d0 0 _ rfl;have e1:wr.cell? ⟨b,off+m*14+1,none⟩=some (.int .i64 c.lf):=d0 1 _ rfl;have e2:wr.cell? ⟨b,off+m*14+2,none⟩=some (.int .i64 c.pl):=d0 2 _ rfl;have e3:wr.cell? ⟨b,off+m*14+3,none⟩=some (.int .i64 c.k):=d0 3 _ rfl;have e4:wr.cell? ⟨b,off+m*14+4,none⟩=some (.int .i64 c.wn):=d0 4 _ rfl;have e5:wr.cell? ⟨b,off+m*14+5,none⟩=some (.int .i64 c.th):=d0 5 _ rfl;have e6:wr.cell? ⟨b,off+m*14+6,none⟩=some (.int .i64 c.fl):=d0 6 _ rfl;have e7:wr.cell? ⟨b,off+m*14+7,none⟩=some (.int .i64 c.ac):=d0 7 _ rfl;have e8:wr.cell? ⟨b,off+m*14+8,none⟩=some (.int .i64 c.la):=d0 8 _ rfl;have e9:wr.cell? ⟨b,off+m*14+9,none⟩=some (.int .i64 c.og):=d0 9 _ rfl;have e10:wr.cell? ⟨b,off+m*14+10,none⟩=some (.int .i64 c.st):=d0 10 _ rfl;have e11:wr.cell? ⟨b,off+m*14+11,none⟩=some (.int .i64 c.fr):=d0 11 _ rfl;have e12:wr.cell? ⟨b,off+m*14+12,none⟩=some (.bool c.sl):=d0 12 _ rfl;have e13:wr.cell? ⟨b,off+m*14+13,none⟩=some (.slice sa c.xs.length sc):=d13;have hd:=zuw c sa sc id wr;by_cases hc:c.id<id
   ·rw[zux hc]at hd;have HC:Hid (c.id<id):=hc;clear hc;go_wp2_with (first|(go_at_call 107;refine hd.mono ?_;rintro e w3 ⟨rfl,hb3⟩));go_roundw;case rel =>
     refine⟨m+1,j,by go_num,rfl,by omega,hj,fun k hk hkm=>?_,HB,zag hbw hb3⟩;by_cases e:k=m
     ·subst e;rw[HX.out];exact HC.out
     ·have q:=HR.out k m hk hmK (by omega);rw[HX.out]at q;have:=HC.out;omega
    case measure=>simp[intOf];omega
   ·have HC:Hid (id<=c.id):=(by show id<=c.id;omega);obtain⟨z,hz,hz0⟩:∃z:Int,zsv c.id id=z/\¬z<0:=by
     by_cases e:c.id=id
     ·exact⟨0,zq3 e,by omega⟩
     ·exact⟨1,zuy (by omega),by omega⟩
    rw[hz]at hd;clear hc hz;go_wp2_with (first|(go_at_call 107;refine hd.mono ?_;rintro e w3 ⟨rfl,hb3⟩));go_roundw;case rel =>
     refine⟨i,m,rfl,rfl,by omega,by omega,HA,fun k hk hkm=>?_,zag hbw hb3⟩;by_cases e:k=m
     ·subst e;rw[HX.out];exact HC.out
     ·have q:=HR.out m k hmK hk (by omega);rw[HX.out]at q;have:=HC.out;omega
    case measure=>simp[intOf];omega
  ·have e:i=j:=(by omega);subst e;by_cases hn:i<K.length
   ·have hn':(i:Int)<(K.length:Int):=(by omega);obtain⟨b,off,sa,sc,hak,hbl,d0,d13,sm⟩:=h.at hbw i hn;subst hak;obtain⟨c,hc⟩:∃c,K[i]=c:=⟨_,rfl⟩;have HX:Hid (K[i]=c):=hc;rw[hc]at d0 d13 sm;clear hc;have e0:wr.cell? ⟨b,off+i*14,none⟩=some (.int .i64 c.id):=d0 0 _ rfl;have e1:wr.cell? ⟨b,off+i*14+1,none⟩=some (.int .i64 c.lf):=d0 1 _ rfl;have e2:wr.cell? ⟨b,off+i*14+2,none⟩=some (.int .i64 c.pl):=d0 2 _ rfl;have e3:wr.cell? ⟨b,off+i*14+3,none⟩=some (.int .i64 c.k):=d0 3 _ rfl;have e4:wr.cell? ⟨b,off+i*14+4,none⟩=some (.int .i64 c.wn):=d0 4 _ rfl;have e5:wr.cell? ⟨b,off+i*14+5,none⟩=some (.int .i64 c.th):=d0 5 _ rfl;have e6:wr.cell? ⟨b,off+i*14+6,none⟩=some (.int .i64 c.fl):=d0 6 _ rfl;have e7:wr.cell? ⟨b,off+i*14+7,none⟩=some (.int .i64 c.ac):=d0 7 _ rfl;have e8:wr.cell? ⟨b,off+i*14+8,none⟩=some (.int .i64 c.la):=d0 8 _ rfl;have e9:wr.cell? ⟨b,off+i*14+9,none⟩=some (.int .i64 c.og):=d0 9 _ rfl;have e10:wr.cell? ⟨b,off+i*14+10,none⟩=some (.int .i64 c.st):=d0 10 _ rfl;have e11:wr.cell? ⟨b,off+i*14+11,none⟩=some (.int .i64 c.fr):=d0 11 _ rfl;have e12:wr.cell? ⟨b,off+i*14+12,none⟩=some (.bool c.sl):=d0 12 _ rfl;have e13:wr.cell? ⟨b,off+i*14+13,none⟩=some (.slice sa c.xs.length sc):=d13;have hd:=zuw c sa sc id wr;by_cases hc:c.id=id
    ·rw[zq3 hc]at hd;have HC:Hid (c.id=id):=hc;clear hc;go_wp2_with (first|(go_at_call 107;refine hd.mono ?_;rintro e w3 ⟨rfl,hb3⟩));go_ret2;exact⟨i,true,rfl,by omega,HA.out,HB.out,⟨fun _=>⟨hn,by rw[HX.out];exact HC.out⟩,fun _=>rfl⟩,zag hbw hb3⟩
    ·obtain⟨z,hz,hz0⟩:∃z:Int,zsv c.id id=z/\(z == 0)=false:=by
      by_cases e:c.id<id
      ·exact⟨-1,zux e,by decide⟩
      ·exact⟨1,zuy (by omega),by decide⟩
     rw[hz]at hd;have HC:Hid (¬c.id=id):=hc;clear hc hz;go_wp2_with (first|(go_at_call 107;refine hd.mono ?_;rintro e w3 ⟨rfl,hb3⟩));go_ret2;exact⟨i,false,rfl,by omega,HA.out,HB.out,⟨(fun e=>by cases e),fun ⟨q,e⟩=>absurd (by rw[HX.out]at e;exact e) HC.out⟩,zag hbw hb3⟩
   ·have e:i=K.length:=(by omega);subst e;go_wp2;go_ret2;exact⟨K.length,false,rfl,by omega,HA.out,HB.out,⟨(fun e=>by cases e),fun ⟨q,_⟩=>by omega⟩,hbw⟩
theorem zod(h:Kw w a K)(hl:K.length<=40)(hr:∀i j (h1:i<K.length) (h2:j<K.length),i<j->K[i].id<K[j].id):
 Calls Tryz.prog 43 #[.slice a K.length cap,.int .i64 id] w (zuz K id w):=by
 go_enter Tryz.func43,Tryz.ntmps43;go_wp2_with (first|(go_at_call 106;refine (zv3 cap id h hl hr).mono ?_;rintro e w2 ⟨p,f,rfl,hp,hA,hB,hF,hb2⟩));go_ret2;exact⟨p,f,rfl,hp,hA,hB,hF,hb2⟩
end
theorem zu0{w:World}{pb:Nat}{p:Int}(hc:w.cell? ⟨pb,0,none⟩=some (.int .i64 p))(hz:pb<w.heap.size)(c:Kn)(sa:Option Addr)(sc:Nat):
 Calls Tryz.prog 161 #[.agg #[.int .i64 c.id,.int .i64 c.lf,.int .i64 c.pl,.int .i64 c.k,.int .i64 c.wn,.int .i64 c.th,.int .i64 c.fl,.int .i64 c.ac,.int .i64 c.la,.int .i64 c.og,.int .i64 c.st,.int .i64 c.fr,.bool c.sl,.slice sa c.xs.length sc],.pointer (some ⟨pb,0,none⟩)] w fun e w'=>e=.returned (.bool (c.pl != p))/\Bw w w':=by
 have hn:w.heap.size≠pb:=by omega
 go_enter Tryz.func161,Tryz.ntmps161;go_wp2;go_ret;exact⟨rfl,by go_grown⟩
def IdxK(p:Int)(K:List Kn)(z:Int):Prop:=(z = -1/\∀m (h:m<K.length),K[m].pl=p)\/∃(k:Nat) (h:k<K.length),z=k/\K[k].pl≠p/\∀m (h:m<K.length),m<k->K[m].pl=p
def zz2(p:Int)(K:List Kn)(w:World)(e:Ending)(w':World):Prop:=∃z,e=.returned (.int .i64 z)/\IdxK p K z/\Bw w w'
theorem zu1{w:World}{a:Option Addr}(cap:Nat){K:List Kn}{pb:Nat}{p:Int}(h:Kw w a K)(hc:w.cell? ⟨pb,0,none⟩=some (.int .i64 p))(hz:pb<w.heap.size)(hl:K.length<=40):
 Calls Tryz.prog 126 #[.slice a K.length cap,.func (.func 161) #[] #[.pointer (some ⟨pb,0,none⟩)]] w (zz2 p K w):=by
 have eg:∀args w,(callFunc 161 args).run Tryz.prog w=.ok (.enter 161 args) w:=enters_of Tryz.func161 (by kernel_rfl) rfl;have hl':(K.length:Int)<=40:=by omega
 go_enter Tryz.func126,Tryz.ntmps126;go_wp2;go_loopw [8] (fun i wr=>∃k:Nat,i=.int .i64 k/\k<=K.length/\Hid (∀m (h:m<K.length),m<k->K[m].pl=p)/\Bw w wr) (fun i _=>K.length-(intOf i).toNat);case atStart=>exact⟨0,rfl,by omega,(fun m h k=>by omega),brf _ _⟩
 case round =>
  obtain⟨k,rfl,hk,HA,hbw⟩:=hrel;by_cases hlt:k<K.length
  ·have hlt':(k:Int)<(K.length:Int):=(by omega);obtain⟨b,off,sa,sc,hak,hbl,d0,d13,sm⟩:=h.at hbw k hlt;subst hak;obtain⟨c,hc⟩:∃c,K[k]=c:=⟨_,rfl⟩;have HX:Hid (K[k]=c):=hc;rw[hc]at d0 d13 sm;clear hc;have e0:wr.cell? ⟨b,off+k*14,none⟩=some (.int .i64 c.id):=d0 0 _ rfl;have e1:wr.cell? ⟨b,off+k*14+1,none⟩=some (.int .i64 c.lf):=d0 1 _ rfl;have e2:wr.cell? ⟨b,off+k*14+2,none⟩=some (.int .i64 c.pl):=d0 2 _ rfl;have e3:wr.cell? ⟨b,off+k*14+3,none⟩=some (.int .i64 c.k):=d0 3 _ rfl;have e4:wr.cell? ⟨b,off+k*14+4,none⟩=some (.int .i64 c.wn):=d0 4 _ rfl;have e5:wr.cell? ⟨b,off+k*14+5,none⟩=some (.int .i64 c.th):=d0 5 _ rfl;have e6:wr.cell? ⟨b,off+k*14+6,none⟩=some (.int .i64 c.fl):=d0 6 _ rfl;have e7:wr.cell? ⟨b,off+k*14+7,none⟩=some (.int .i64 c.ac):=d0 7 _ rfl;have e8:wr.cell? ⟨b,off+k*14+8,none⟩=some (.int .i64 c.la):=d0 8 _ rfl;have e9:wr.cell? ⟨b,off+k*14+9,none⟩=some (.int .i64 c.og):=d0 9 _ rfl;have e10:wr.cell? ⟨b,off+k*14+10,none⟩=some (.int .i64 c.st):=d0 10 _ rfl;have e11:wr.cell? ⟨b,off+k*14+11,none⟩=some (.int .i64 c.fr):=d0 11 _ rfl;have e12:wr.cell? ⟨b,off+k*14+12,none⟩=some (.bool c.sl):=d0 12 _ rfl;have e13:wr.cell? ⟨b,off+k*14+13,none⟩=some (.slice sa c.xs.length sc):=d13;have hd:=zu0 (w:=wr) (p:=p) (pb:=pb) (bct hbw hz hc) (nlt hz hbw.size) c sa sc;by_cases hp:c.pl=p
   ·have hp':(c.pl != p)=false:=(by simp[hp]);rw[hp']at hd;have HP:Hid (c.pl=p):=hp;clear hp hp';go_wp2_with (first|(go_at_call 161;refine hd.mono ?_;rintro e w3 ⟨rfl,hb3⟩));go_roundw;case rel =>
     refine⟨k+1,by go_num,by omega,fun m hm hk=>?_,zag hbw hb3⟩;by_cases e:m=k
     ·subst e;rw[HX.out];exact HP.out
     ·exact HA.out m hm (by omega)
    case measure=>simp[intOf]<;>omega
   ·have hp':(c.pl != p)=true:=(by simp[hp]);rw[hp']at hd;have HP:Hid (¬c.pl=p):=hp;clear hp hp';go_wp2_with (first|(go_at_call 161;refine hd.mono ?_;rintro e w3 ⟨rfl,hb3⟩));go_ret;exact⟨k,rfl,.inr ⟨k,hlt,rfl,by rw[HX.out];exact HP.out,HA.out⟩,zag hbw hb3⟩
  ·have e:k=K.length:=(by omega);subst e;go_wp2;go_ret;exact⟨_,rfl,.inl ⟨rfl,fun m hm=>HA.out m hm hm⟩,hbw⟩
def zj7(n:Nat):List Value:=(Builtin.zeroCells #[.int .i64 0,.int .i64 0,.int .i64 0,.int .i64 0,.int .i64 0,.int .i64 0,.int .i64 0,.int .i64 0,.int .i64 0,.int .i64 0,.int .i64 0,.int .i64 0,.bool false,.slice none 0 0] n).toList
theorem zgm(n:Nat):(zj7 n).length=n*14:=by unfold zj7;simp only[Builtin.zeroCells];simp
theorem zv4(n:Nat):∀u ∈ zj7 n,u.oneCell'=true:=by
 intro u hu;obtain⟨i,hi,rfl⟩:=List.mem_iff_getElem.1 hu;rw[zgm]at hi;unfold zj7;simp only[Builtin.zeroCells];have h:i%14=0\/i%14=1\/i%14=2\/i%14=3\/i%14=4\/i%14=5\/i%14=6\/i%14=7\/i%14=8\/i%14=9\/i%14=10\/i%14=11\/i%14=12\/i%14=13:=by omega
 rcases h with h|h|h|h|h|h|h|h|h|h|h|h|h|h<;>simp[h,Value.oneCell']
theorem zsx{w:World}{b o n c:Nat}(ty:TypeId)(hn:0<n)(hc:∀j,j<n*14->(w.cell? ⟨b,o+j,none⟩).isSome=true)(hf:∀j,j<n*14->w.frozen? ⟨b,o+j,none⟩=false):
 (Builtin.clear_ #[29] ty #[.slice (some ⟨b,o,none⟩) n c]).run Tryz.prog w=.ok (.tuple #[]) (w.setCells b o (zj7 n)):=by
 have hst:=run_storeCells_cells (P:=Tryz.prog) b o (zj7 n) 0 w (by simpa[zgm] using hc) (by simpa[zgm] using hf) (zv4 n);simp only[Nat.add_zero]at hst;obtain⟨m,rfl⟩:∃m,n=m+1:=⟨n-1,by omega⟩;have hv:∀w,(zeroValue 47).run Tryz.prog w=.ok (.agg #[.int .i64 0,.int .i64 0,.int .i64 0,.int .i64 0,.int .i64 0,.int .i64 0,.int .i64 0,.int .i64 0,.int .i64 0,.int .i64 0,.int .i64 0,.int .i64 0,.bool false,.slice none 0 0]) w:=Tryz.zeroValue47;have hzc:(Builtin.zeroCells (Value.agg #[.int .i64 0,.int .i64 0,.int .i64 0,.int .i64 0,.int .i64 0,.int .i64 0,.int .i64 0,.int .i64 0,.int .i64 0,.int .i64 0,.int .i64 0,.int .i64 0,.bool false,.slice none 0 0]).cells (m+1)).toList=zj7 (m+1):=rfl;simp[Builtin.clear_,run_underlying Tryz.underlying29,hv,hzc,hst]
theorem zz3{w:World}{base:Nat}{e:TypeId}{g n cap i:Nat}{G:List G14}(h:w.ownsRow base e 14 (.slice (some ⟨g,0,none⟩) n cap) n (zbl G))(hi:i<G.length)(c:Kn)(v:Value):
 ((((((((((((((w.setCell ⟨g,i*14,none⟩ (.int .i64 c.id)).setCell ⟨g,i*14+1,none⟩ (.int .i64 c.lf)).setCell ⟨g,i*14+2,none⟩ (.int .i64 c.pl)).setCell ⟨g,i*14+3,none⟩ (.int .i64 c.k)).setCell ⟨g,i*14+4,none⟩ (.int .i64 c.wn)).setCell ⟨g,i*14+5,none⟩ (.int .i64 c.th)).setCell ⟨g,i*14+6,none⟩ (.int .i64 c.fl)).setCell ⟨g,i*14+7,none⟩ (.int .i64 c.ac)).setCell ⟨g,i*14+8,none⟩ (.int .i64 c.la)).setCell ⟨g,i*14+9,none⟩ (.int .i64 c.og)).setCell ⟨g,i*14+10,none⟩ (.int .i64 c.st)).setCell ⟨g,i*14+11,none⟩ (.int .i64 c.fr)).setCell ⟨g,i*14+12,none⟩ (.bool c.sl)).setCell ⟨g,i*14+13,none⟩ (v)).ownsRow base e 14 (.slice (some ⟨g,0,none⟩) n cap) n (zbl (G.set i (c,v))):=by
 have k:=zut (zgt (c,v)) (i*14) w _ h;rw[zx5 G hi]at k;exact k
theorem zq4{w:World}{g i:Nat}(c:Kn)(v:Value):Only g w ((((((((((((((w.setCell ⟨g,i*14,none⟩ (.int .i64 c.id)).setCell ⟨g,i*14+1,none⟩ (.int .i64 c.lf)).setCell ⟨g,i*14+2,none⟩ (.int .i64 c.pl)).setCell ⟨g,i*14+3,none⟩ (.int .i64 c.k)).setCell ⟨g,i*14+4,none⟩ (.int .i64 c.wn)).setCell ⟨g,i*14+5,none⟩ (.int .i64 c.th)).setCell ⟨g,i*14+6,none⟩ (.int .i64 c.fl)).setCell ⟨g,i*14+7,none⟩ (.int .i64 c.ac)).setCell ⟨g,i*14+8,none⟩ (.int .i64 c.la)).setCell ⟨g,i*14+9,none⟩ (.int .i64 c.og)).setCell ⟨g,i*14+10,none⟩ (.int .i64 c.st)).setCell ⟨g,i*14+11,none⟩ (.int .i64 c.fr)).setCell ⟨g,i*14+12,none⟩ (.bool c.sl)).setCell ⟨g,i*14+13,none⟩ (v)):=zav (zgt (c,v)) (i*14) w
structure DelK (p:Int) (G Z:List G14) (i j:Nat):Prop where
 len:Z.length=G.length
 lo:i<j
 hi:j<=G.length
 got:Z.take i=(G.take j).filter (fun x=>decide (x.1.pl=p))
 rest:∀m (h:m<G.length) (h':m<Z.length),j<=m->Z[m]=G[m]
section
variable{p:Int}
theorem zz4{G:List G14}{j:Nat}(hj:j<G.length)(e:G[j].1.pl=p):(G.take (j+1)).filter (fun x=>decide (x.1.pl=p))=(G.take j).filter (fun x=>decide (x.1.pl=p)) ++ [G[j]]:=by rw[zdr G hj,List.filter_append];simp[e]
theorem zx8{G:List G14}{j:Nat}(hj:j<G.length)(e:¬G[j].1.pl=p):(G.take (j+1)).filter (fun x=>decide (x.1.pl=p))=(G.take j).filter (fun x=>decide (x.1.pl=p)):=by rw[zdr G hj,List.filter_append];simp[e]
theorem DelK.start{G:List G14}{k:Nat}(hk:k<G.length)(he:¬G[k].1.pl=p)(h:∀m (h:m<G.length),m<k->G[m].1.pl=p):DelK p G G k (k+1):=by refine⟨rfl,by omega,by omega,?_,fun m _ _ _=>rfl⟩;rw[zx8 hk he,List.filter_eq_self.2];intro x hx;obtain⟨m,hm,e⟩:=List.mem_iff_getElem.1 hx;rw[List.length_take]at hm;rw[List.getElem_take]at e;rw[<-e];simp[h m (by omega) (by omega)]
section
variable{G Z:List G14}
theorem DelK.keep{i j:Nat}(s:DelK p G Z i j)(hj:j<G.length)(e:G[j].1.pl=p):DelK p G (Z.set i G[j]) (i+1) (j+1):=by
 have hl:=s.len;have hlo:=s.lo;refine⟨by rw[List.length_set];exact s.len,by omega,by omega,?_,fun m h h' hm=>?_⟩
 ·rw[zz4 hj e,<-s.got,List.take_succ_eq_append_getElem (by rw[List.length_set];omega),List.getElem_set_self,List.take_set_of_le (nrf _)]
 ·rw[List.getElem_set_ne (by omega)];exact s.rest m h (by omega) (by omega)
theorem DelK.skip{i j:Nat}(s:DelK p G Z i j)(hj:j<G.length)(e:¬G[j].1.pl=p):DelK p G Z i (j+1) :=
 ⟨s.len,by have:=s.lo;omega,by omega,by rw[zx8 hj e];exact s.got,fun m h h' hm=>s.rest m h h' (by omega)⟩
theorem DelK.count{i:Nat}(s:DelK p G Z i G.length):(G.filter (fun x=>decide (x.1.pl=p))).length=i/\Z.take i=G.filter (fun x=>decide (x.1.pl=p)):=by have e:=s.got;rw[List.take_length]at e;refine⟨?_,e⟩;rw[<-e,List.length_take,s.len];have:=s.lo;omega
end
theorem zv5{G:List G14}{K:List Kn}{z:Int}(hg:G.map Prod.fst=K)(h:IdxK p K z):(z = -1/\Hid (G.filter (fun x=>decide (x.1.pl=p))=G))\/∃k:Nat,z=k/\((k:Int) == -1)=false/\k<G.length/\Hid (DelK p G G k (k+1)):=by
 subst hg;rcases h with⟨e,h⟩|⟨k,hk,e,he,h⟩
 ·refine .inl ⟨e,List.filter_eq_self.2 (fun x hx=>?_)⟩;obtain⟨m,hm,e⟩:=List.mem_iff_getElem.1 hx;have q:=h m (by rw[List.length_map];exact hm);rw[List.getElem_map,e]at q;simp[q]
 ·rw[List.length_map]at hk;rw[List.getElem_map]at he;refine .inr ⟨k,e,beq_eq_false_iff_ne.2 (by omega),hk,DelK.start hk he (fun m hm hmk=>?_)⟩;have q:=h m (by rw[List.length_map];exact hm) hmk;rw[List.getElem_map]at q;exact q
end
theorem zq5{w:World}{base:Nat}{e:TypeId}{g n cap:Nat}{G:List G14}(h:w.ownsRow base e 14 (.slice (some ⟨g,0,none⟩) n cap) n (zbl G))(hz:G.length=n){i:Nat}(hi:i<n){c:Kn}{v:Value}(hc:G[i]=(c,v)):∀j u,(zgt (c,v))[j]?=some u->w.cell? ⟨g,i*14+j,none⟩=some u:=fun j u hu=>by have hj:=(List.getElem?_eq_some_iff.1 hu).1;rw[zb3]at hj;refine (h.cellAt _ (by omega)).trans ((zb1 G i (by omega) j hj).trans ?_);rw[hc];exact hu
def zo8(base:Nat)(w:World)(G:List G14)(e:Ending)(w':World):Prop:=∃v,e=.returned v/\w'.ownsRow base 47 14 v G.length (zbl G)/\Below base w w'
theorem zq6{w:World}{base pb:Nat}{p:Int}(hc:w.cell? ⟨pb,0,none⟩=some (.int .i64 p))(hz:pb<w.heap.size)(hB:base<=w.heap.size):
 Calls Tryz.prog 160 #[.slice none 0 0,.func (.func 161) #[] #[.pointer (some ⟨pb,0,none⟩)]] w (zo8 base w []):=by
 go_enter Tryz.func160,Tryz.ntmps160;go_wp2_with (first|(go_at_call 126;refine (zu1 (K:=[]) 0 (Kls.nil _ _ _) hc hz (by simp)).mono ?_;rintro e w3 ⟨z,rfl,hi,hb3⟩;obtain rfl:z = -1:=(by rcases hi with⟨e,_⟩|⟨k,hk,_⟩;exact e;cases hk)));go_ret;exact⟨_,rfl,⟨rfl,.inl ⟨rfl,rfl⟩⟩,hb3.mono hB⟩
theorem zq7{w:World}{base pb g cap:Nat}{p:Int}{G:List G14}{K:List Kn}{B:Nat}(hV:VK B w G K)(hBw:B<=w.heap.size)(hown:w.ownsRow base 47 14 (.slice (some ⟨g,0,none⟩) G.length cap) G.length (zbl G))(hl:G.length<=40)(hcap:G.length<=cap)(hc:w.cell? ⟨pb,0,none⟩=some (.int .i64 p))(hcb:pb<base)(hB:base<=w.heap.size):
 Calls Tryz.prog 160 #[.slice (some ⟨g,0,none⟩) G.length cap,.func (.func 161) #[] #[.pointer (some ⟨pb,0,none⟩)]] w (zo8 base w (G.filter (fun x=>decide (x.1.pl=p)))):=by
 have eg:∀args w,(callFunc 161 args).run Tryz.prog w=.ok (.enter 161 args) w:=enters_of Tryz.func161 (by kernel_rfl) rfl;obtain⟨hg0,hg1⟩:=hown.lt g rfl;have hsm:Kw w (some ⟨g,0,none⟩) K:=zzy hown hV hBw;have hz:pb<w.heap.size:=by omega
 have HB:Hid (base<=g/\pb<base):=⟨hg0,hcb⟩;have hl':(G.length:Int)<=40:=by omega
 have hcap':(G.length:Int)<=cap:=by omega
 have HSL:Hid (∀i (h:i<G.length),∃c sa sc,G[i]=(c,.slice sa c.xs.length sc)):=fun i h=>by obtain⟨sa,sc,e,_⟩:=hV.at' i h;exact⟨G[i].1,sa,sc,Prod.ext rfl e⟩
 have hi:=zu1 cap hsm hc hz (by rw[<-hV.len];exact hl);have HF:Hid (G.map Prod.fst=K):=hV.fst;obtain⟨n,hn⟩:∃n,G.length=n:=⟨_,rfl⟩;have HN:Hid (G.length=n):=hn;rw[<-hV.len,hn]at hi;rw[hn]at hown hl' hcap';rw[hn];clear hn hl hsm hV;go_enter Tryz.func160,Tryz.ntmps160;go_wp2_with (first|(go_at_call 126;refine hi.mono ?_;clear hi;rintro e w3 ⟨z,rfl,hi,hb3⟩;rcases zv5 HF.out hi with⟨rfl,HS⟩|⟨k,rfl,hk1,hk,HS⟩;clear hi))
 ·go_ret;exact⟨_,rfl,by rw[HS.out,HN.out];exact zbd hown hb3,hb3.mono hB⟩
 ·go_loopw [5,6,7] (fun s5 s6 s7 wr=>∃i j Z,s5=.int .i64 (i:Nat)/\s6=.int .i64 (j:Nat)/\Hid (DelK p G Z i j)/\Hid (wr.ownsRow base 47 14 (.slice (some ⟨g,0,none⟩) n cap) n (zbl Z))/\wr.cell? ⟨pb,0,none⟩=some (.int .i64 p)/\Below base w wr) (fun _ s6 _ _=>n-(intOf s6).toNat);case atStart=>exact⟨k,k+1,G,rfl,by have hh:=HN.out;rw[IntWalk.wrap64_in _ (by omega)];rfl,HS,zbd hown hb3,bct hb3 hz hc,hb3.mono hB⟩
  case round =>
   clear HS hown hc hk hk1 hb3;obtain⟨i,j,Z,rfl,rfl,HD,HO,hc,hwr⟩:=hrel;have HZ:Hid (Z.length=n):=HD.out.len.trans HN.out;have hij:=HD.out.lo;have hjn:j<=n:=HN.out ▸ HD.out.hi;have hgz:=(HO.out.lt g rfl).2;have hcz:pb<wr.heap.size:=nlt hz hwr.size;have hgw:wr.heap.size≠g:=(by omega);have hcw:wr.heap.size≠pb:=(by omega);have hg3:g≠wr.heap.size:=(by omega);have hcg:g≠pb:=(by have:=HB.out;omega);by_cases hlt:j<n
   ·have hlt':(j:Int)<n:=(by omega);have hi':(i:Int)<n:=(by omega);have hjG:j<G.length:=(by rw[HN.out];exact hlt);obtain⟨c,sa,sc,hcG⟩:=HSL.out j hjG;have HX:Hid (G[j]=(c,.slice sa c.xs.length sc)):=hcG;have hcZ:Z[j]'(by rw[HZ.out];exact hlt)=(c,.slice sa c.xs.length sc):=(HD.out.rest j hjG (by rw[HZ.out];exact hlt) (nrf _)).trans hcG;have d0:=zq5 HO.out HZ.out hlt hcZ;clear hcZ hcG;have e0:wr.cell? ⟨g,j*14,none⟩=some (.int .i64 c.id):=d0 0 _ rfl;have e1:wr.cell? ⟨g,j*14+1,none⟩=some (.int .i64 c.lf):=d0 1 _ rfl;have e2:wr.cell? ⟨g,j*14+2,none⟩=some (.int .i64 c.pl):=d0 2 _ rfl;have e3:wr.cell? ⟨g,j*14+3,none⟩=some (.int .i64 c.k):=d0 3 _ rfl;have e4:wr.cell? ⟨g,j*14+4,none⟩=some (.int .i64 c.wn):=d0 4 _ rfl;have e5:wr.cell? ⟨g,j*14+5,none⟩=some (.int .i64 c.th):=d0 5 _ rfl;have e6:wr.cell? ⟨g,j*14+6,none⟩=some (.int .i64 c.fl):=d0 6 _ rfl;have e7:wr.cell? ⟨g,j*14+7,none⟩=some (.int .i64 c.ac):=d0 7 _ rfl;have e8:wr.cell? ⟨g,j*14+8,none⟩=some (.int .i64 c.la):=d0 8 _ rfl;have e9:wr.cell? ⟨g,j*14+9,none⟩=some (.int .i64 c.og):=d0 9 _ rfl;have e10:wr.cell? ⟨g,j*14+10,none⟩=some (.int .i64 c.st):=d0 10 _ rfl;have e11:wr.cell? ⟨g,j*14+11,none⟩=some (.int .i64 c.fr):=d0 11 _ rfl;have e12:wr.cell? ⟨g,j*14+12,none⟩=some (.bool c.sl):=d0 12 _ rfl;have e13:wr.cell? ⟨g,j*14+13,none⟩=some (.slice sa c.xs.length sc):=d0 13 _ rfl;have hd:∀x,Bw wr x->Calls Tryz.prog 161 #[.agg #[.int .i64 c.id,.int .i64 c.lf,.int .i64 c.pl,.int .i64 c.k,.int .i64 c.wn,.int .i64 c.th,.int .i64 c.fl,.int .i64 c.ac,.int .i64 c.la,.int .i64 c.og,.int .i64 c.st,.int .i64 c.fr,.bool c.sl,.slice sa c.xs.length sc],.pointer (some ⟨pb,0,none⟩)] x fun e w'=>e=.returned (.bool (c.pl != p))/\Bw x w':=fun x hx=>zu0 (bct hx hcz hc) (nlt hcz hx.size) c sa sc;go_upto_region 8 with (fail);obtain⟨y,hy,y0,b1⟩:=new1 wr 47 [.int .i64 c.id,.int .i64 c.lf,.int .i64 c.pl,.int .i64 c.k,.int .i64 c.wn,.int .i64 c.th,.int .i64 c.fl,.int .i64 c.ac,.int .i64 c.la,.int .i64 c.og,.int .i64 c.st,.int .i64 c.fr,.bool c.sl,.slice sa c.xs.length sc];rw[<-hy];have hdy:=hd y b1;clear hy hd e0 e1 e2 e3 e4 e5 e6 e7 e8 e9 e10 e11 e12 e13;have zy:=y0.lt;obtain⟨yy0,y1,y2,y3,y4,y5,y6,y7,y8,y9,y10,y11,y12,y13⟩:=y0.c14;by_cases hp:c.pl=p
    ·have hp':(c.pl != p)=false:=(by simp[hp]);rw[hp']at hdy;have HP:Hid (c.pl=p):=hp;clear hp hp';go_upto_region 9 with (first|(go_at_call 161;refine hdy.mono ?_;rintro e w4 ⟨rfl,hb4⟩));have y4:=y0.next hb4;have hb5:=zaa b1 hb4;have row:=zbd HO.out hb5;have hi2:i<n:=(by omega);have hgz4:g<w4.heap.size:=nlt hgz hb5.size;obtain⟨q0,q1,q2,q3,q4,q5,q6,q7,q8,q9,q10,q11,q12,q13⟩:=y4.c14;obtain⟨⟨cq,vq⟩,hcq⟩:∃x,Z[i]'(by rw[HZ.out];exact hi2)=x:=⟨_,rfl⟩;have u0:=zq5 row HZ.out hi2 hcq;clear hcq;have ff:∀o,w4.frozen? ⟨g,o,none⟩=false:=fun o=>row.frozenAt o;have r0:w4.cell? ⟨g,i*14,none⟩=some (.int .i64 cq.id):=u0 0 _ rfl;have r1:w4.cell? ⟨g,i*14+1,none⟩=some (.int .i64 cq.lf):=u0 1 _ rfl;have r2:w4.cell? ⟨g,i*14+2,none⟩=some (.int .i64 cq.pl):=u0 2 _ rfl;have r3:w4.cell? ⟨g,i*14+3,none⟩=some (.int .i64 cq.k):=u0 3 _ rfl;have r4:w4.cell? ⟨g,i*14+4,none⟩=some (.int .i64 cq.wn):=u0 4 _ rfl;have r5:w4.cell? ⟨g,i*14+5,none⟩=some (.int .i64 cq.th):=u0 5 _ rfl;have r6:w4.cell? ⟨g,i*14+6,none⟩=some (.int .i64 cq.fl):=u0 6 _ rfl;have r7:w4.cell? ⟨g,i*14+7,none⟩=some (.int .i64 cq.ac):=u0 7 _ rfl;have r8:w4.cell? ⟨g,i*14+8,none⟩=some (.int .i64 cq.la):=u0 8 _ rfl;have r9:w4.cell? ⟨g,i*14+9,none⟩=some (.int .i64 cq.og):=u0 9 _ rfl;have r10:w4.cell? ⟨g,i*14+10,none⟩=some (.int .i64 cq.st):=u0 10 _ rfl;have r11:w4.cell? ⟨g,i*14+11,none⟩=some (.int .i64 cq.fr):=u0 11 _ rfl;have r12:w4.cell? ⟨g,i*14+12,none⟩=some (.bool cq.sl):=u0 12 _ rfl;have r13:w4.cell? ⟨g,i*14+13,none⟩=some (vq):=u0 13 _ rfl;clear u0;go_wp2;go_roundw;case rel =>
      refine⟨i+1,j+1,Z.set i (c,.slice sa c.xs.length sc),by go_num,by go_num,?_,zz3 row (by rw[HZ.out];exact hi2) c _,?_,?_⟩
      ·have k:=HD.out.keep hjG (by rw[HX.out];exact HP.out);rw[HX.out]at k;exact k
      ·exact ((zq4 c _).cell (p:=⟨pb,0,none⟩) (nlt hcz hb5.size) (by exact fun e=>hcg e.symm)).trans (bct hb5 hcz hc)
      ·exact (hwr.trans (hb5.mono (ntr hB hwr.size))).trans ((zq4 c _).below (by exact HB.out.1) (by have:=hwr.size;have:=hb5.size;omega))
     case measure=>simp[intOf]<;>omega
    ·have hp':(c.pl != p)=true:=(by simp[hp]);rw[hp']at hdy;have HP:Hid (¬c.pl=p):=hp;clear hp hp';go_wp2_with (first|(go_at_call 161;refine hdy.mono ?_;rintro e w4 ⟨rfl,hb4⟩));go_roundw;case rel =>have hb5:=zaa b1 hb4;exact⟨i,j+1,Z,rfl,by go_num,HD.out.skip hjG (by rw[HX.out];exact HP.out),zbd HO.out hb5,bct hb5 hcz hc,hwr.trans (hb5.mono (ntr hB hwr.size))⟩
     case measure=>simp[intOf]<;>omega
   ·have e:j=n:=(by omega);have HJ:Hid (DelK p G Z i G.length):=(by rw[HN.out,<-e];exact HD);have hin:i<n:=(by omega);clear HD;subst e;have hi1:(i:Int)<=j:=(by omega);have hi2:(i:Int)<=cap:=(by omega);have hown:=HO.out;have hcl:∀ty,(Builtin.clear_ #[29] ty #[.slice (some ⟨g,i*14,none⟩) (j-i) (cap-i)]).run Tryz.prog wr=.ok (.tuple #[]) (wr.setCells g (i*14) (zj7 (j-i))) :=
     fun ty=>zsx ty (by omega) (fun m hm=>by rw[hown.cellAt _ (by omega),List.getElem?_eq_getElem (by rw[zas,HZ.out];omega)];rfl) (fun m hm=>hown.frozenAt _)
    go_wp2;go_ret;have ⟨e1,e2⟩:=HJ.out.count;refine⟨_,rfl,?_,zob HB.out.1 _ _ _ _ hwr⟩;rw[e1];refine zqz _ _ _ ?_ (nrf _);have k:=zzx hown (i:=i) (by omega);rw[zvz,e2]at k;exact k
theorem zsy{w:World}{base pb:Nat}{v:Value}{p:Int}{G:List G14}{K:List Kn}{B:Nat}(hV:VK B w G K)(hBw:B<=w.heap.size)(hown:w.ownsRow base 47 14 v G.length (zbl G))(hl:G.length<=40)(hc:w.cell? ⟨pb,0,none⟩=some (.int .i64 p))(hcb:pb<base)(hB:base<=w.heap.size):
 Calls Tryz.prog 160 #[v,.func (.func 161) #[] #[.pointer (some ⟨pb,0,none⟩)]] w (zo8 base w (G.filter (fun x=>decide (x.1.pl=p)))):=by
 rcases hown.2 with⟨rfl,e⟩|⟨g,cap,cur,rfl,_,_,hcap,_⟩
 ·obtain rfl:G=[]:=List.eq_nil_of_length_eq_zero e;exact zq6 hc (by omega) hB
 ·exact zq7 hV hBw hown hl hcap hc hcb hB
def KlsN(B lo:Nat)(w:World)(a:Option Addr)(K:List Kn):Prop :=
 ∀i (h:i<K.length),∃b off sa sc,a=some ⟨b,off,none⟩/\lo<=b/\b<w.heap.size/\(∀j v,K[i].cs[j]?=some v->w.cell? ⟨b,off+i*14+j,none⟩=some v)/\w.cell? ⟨b,off+i*14+13,none⟩=some (.slice sa K[i].xs.length sc)/\ISmp B w sa K[i].xs
theorem KlsN.kls{B lo:Nat}{w:World}{a:Option Addr}{K:List Kn}(h:KlsN B lo w a K)(hB:B<=w.heap.size):Kw w a K:=fun i hi=>by obtain⟨b,off,sa,sc,e,_,h2,c0,c1,s⟩:=h i hi;exact⟨b,off,sa,sc,e,h2,c0,c1,s.up hB⟩
theorem ISmp.onlyG{B g:Nat}{w w':World}{a:Option Addr}{xs:List Int}(h:ISmp B w a xs)(o:Only g w w')(hg:B<=g)(hB:B<=w.heap.size):ISmp B w' a xs:=h.mono (o.below hg hB)
theorem KlsN.only{B lo g:Nat}{w w':World}{a:Option Addr}{K:List Kn}(h:KlsN B lo w a K)(o:Only g w w')(h1:B<=g)(h2:g<lo)(hB:B<=w.heap.size):KlsN B lo w' a K:=fun i hi=>by
 obtain⟨b,off,sa,sc,e,l1,l2,c0,c1,s⟩:=h i hi;have hne:b≠g:=by omega
 exact⟨b,off,sa,sc,e,l1,nlt l2 o.size,fun j v hv=>(o.cell (p:=⟨b,off+i*14+j,none⟩) l2 hne).trans (c0 j v hv),(o.cell (p:=⟨b,off+i*14+13,none⟩) l2 hne).trans c1,s.onlyG o h1 hB⟩
theorem zx9{w:World}{base B g n cap:Nat}{e:TypeId}{G:List G14}{K:List Kn}(h:w.ownsRow base e 14 (.slice (some ⟨g,0,none⟩) n cap) n (zbl G))(hv:VK B w G K):KlsN B base w (some ⟨g,0,none⟩) K:=by
 intro i hi;have hl:=h.1;rw[zas]at hl;have hgl:=hv.len;have hz:=h.lt g rfl;have hi':i<G.length:=by omega
 have hgi:=hv.get hi' hi;obtain⟨sa,sc,e,s⟩:=hv.at' i hi';have hc:∀j u,(zgt G[i])[j]?=some u->w.cell? ⟨g,0+i*14+j,none⟩=some u:=fun j u hu=>by have hj:=(List.getElem?_eq_some_iff.1 hu).1;rw[zb3]at hj;rw[Nat.zero_add];exact (h.cellAt _ (by omega)).trans ((zb1 G i hi' j hj).trans hu)
 rw[<-hgi];refine⟨g,0,sa,sc,rfl,hz.1,hz.2,fun j u hu=>hc j u ?_,?_,s⟩
 ·unfold zgt;rw[List.getElem?_append_left (List.getElem?_eq_some_iff.1 hu).1];exact hu
 ·exact (hc 13 G[i].2 rfl).trans (by rw[e])
theorem zml{B:Nat}{w:World}{a:Option Addr}(cap:Nat){K:List Kn}(p:Int)(h:Kls B w a K)(hB:B<=w.heap.size)(hl:K.length<=40):
 Calls Tryz.prog 129 #[.slice a K.length cap,.int .i64 p] w fun e w'=>∃u c,e=.returned (.slice u (atP K p).length c)/\KlsN B w.heap.size w' u (atP K p)/\Bw w w':=by
 have nb:=zad w (.cells #[.int .i64 p] 2);have zb:=nb.size;go_enter Tryz.func129,Tryz.ntmps129;go_wp2_with (first| (go_at_call 101;refine (zoc cap (h.mono (nb.mono hB)) (ntr hB zb) (by omega)).mono ?_;rintro e w2 ⟨v,G,rfl,hV,hown,hb2⟩;have k0:w2.cell? ⟨w.heap.size,0,none⟩=some (.int .i64 p):=(zai hb2 _ _ (by simp)).trans (by go_simp);have z2:=hb2.size;have hV2:=hV.mono (hb2.mono (ntr hB zb));rw[<-hV.len]at hown;have hgl:G.length<=40:=(by rw[hV.len];exact hl))| (go_at_call 160;refine (zsy hV2 (by omega) hown hgl k0 (by simp) hb2.size).mono ?_;rintro e w3 ⟨v3,rfl,hown3,hb3⟩));go_ret;have hV3:VK B w3 (G.filter (fun x=>decide (x.1.pl=p))) (atP K p):=(hV2.mono (hb3.mono (ntr hB zb))).filter (fun c=>decide (c.pl=p));have hz3:=hb3.size;obtain⟨u,c3,rfl⟩:=za2 hown3;refine⟨u,c3,by rw[hV3.len];rfl,?_,zaa nb (hb2.trans hb3)⟩;rcases hown3.2 with⟨e3,e4⟩|⟨g,cap',cur,e3,_⟩
 ·have:atP K p=[]:=List.eq_nil_of_length_eq_zero (by rw[<-hV3.len];exact e4);rw[this];exact fun i hi=>by cases hi
 ·injection e3 with e5 e6 e7;subst e5;intro i hi;obtain⟨b,off,sa,sc,e,l1,l2,c⟩:=zx9 hown3 hV3 i hi;exact⟨b,off,sa,sc,e,by omega,l2,c⟩
end Go.Proofs.YthiojkjcmhojoaaGreat
