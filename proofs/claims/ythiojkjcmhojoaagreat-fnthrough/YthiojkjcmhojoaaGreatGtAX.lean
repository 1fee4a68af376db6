import Derived.Test.YthiojkjcmhojoaaGreatGtAS
import Derived.Test.YthiojkjcmhojoaaGreatGtAW
namespace Go.Proofs.YthiojkjcmhojoaaGreat
set_option maxHeartbeats 16000000
open Go.ChangeShapes Go.WideShapes Go.ChangeAt Go.RowKit
set_option maxRecDepth 100000
set_option linter.all false
def zle(b:Q4):Bool:=zj0 b.1 b.2.1 b.2.2.1 b.2.2.2
def zgf(at':Int)(t:Q4):Q4:=(t.2.1,t.2.2.2,1000000000*t.2.2.2,at')
def zgg(at':Int)(t:Q4):Q4:=(t.2.2.1,t.2.2.2,1000000000*t.2.2.2,at')
def zbe(T:List Q4)(at':Int):Bool:=decide (zal T=0) && zba at'
def zxm(T:List Q4)(at':Int):List Q4:=if zbe T at'=true then T else []
def zxn(T:List Q4)(at':Int):List Q4:=if zbe T at'=true then T.map (zgf at') else []
def zxo(T:List Q4)(at':Int):List Q4:=if zbe T at'=true then T.map (zgg at') else []
def zkn(at':Int)(a b t:Q4):Bool:=(((((((zle a && zle b) && decide (a.2.2.2=at')) && decide (b.2.2.2=at')) && decide (a.1=t.2.1)) && decide (b.1=t.2.2.1)) && decide (a.2.1=t.2.2.2)) && decide (b.2.1=t.2.2.2))
def zeq(O:List Q4):Int:=match O[0]? with|some b=>b.2.2.2|none=>0
def zfw(T O P:List Q4)(k:Nat):Bool:=match T[k]?,O[k]?,P[k]? with|some t,some a,some b=>zkn (zeq O) a b t|_,_,_=>false
def zdq(T O P:List Q4):Nat->Bool
 | 0=>true| k+1=>zdq T O P k && zfw T O P k
def zbp(T O P:List Q4):Bool:=((decide (zal T=0) && decide (O.length=T.length)) && decide (P.length=T.length)) && zdq T O P T.length
theorem zn1{T O P:List Q4}{k:Nat}(h:zdq T O P k=false):∀d,zdq T O P (k+d)=false
 | 0=>h| d+1=>by show (zdq T O P (k+d) && _)=false;rw[zn1 h d];rfl
theorem zzo{T O P:List Q4}{k n:Nat}(h:zfw T O P k=false)(hk:k<n):zdq T O P n=false:=by
 have e:zdq T O P (k+1)=false:=by show (zdq T O P k && zfw T O P k)=false;rw[h,Bool.and_false]
 have s:=zn1 e (n-(k+1));rw[show k+1+(n-(k+1))=n by omega]at s;exact s
theorem zub{T O P:List Q4}:∀{n:Nat},zdq T O P n=true->∀k,k<n->zfw T O P k=true
 | 0,_,k,hk=>by cases hk
 | n+1,h,k,hk=>by
  have h':(zdq T O P n && zfw T O P n)=true:=h;rw[bae]at h';by_cases e:k=n
  ·subst e;exact h'.2
  ·exact zub h'.1 k (by omega)
theorem zih{T O P:List Q4}{k:Nat}(h1:k<T.length)(h2:k<O.length)(h3:k<P.length):zfw T O P k=zkn (zeq O) O[k] P[k] T[k]:=by unfold zfw;rw[List.getElem?_eq_getElem h1,List.getElem?_eq_getElem h2,List.getElem?_eq_getElem h3]
structure IsLend (T O P:List Q4):Prop where
 tree:IsTree T
 code:zal T=0
 lo:O.length=T.length
 lp:P.length=T.length
 pair:∀k (h1:k<T.length) (h2:k<O.length) (h3:k<P.length),zkn (zeq O) O[k] P[k] T[k]=true
theorem zbo{T O P:List Q4}(h:zbp T O P=true):IsLend T O P:=by unfold zbp at h;rw[bae,bae,bae]at h;have hc:=of_decide_eq_true h.1.1.1;exact⟨zgz hc,hc,of_decide_eq_true h.1.1.2,of_decide_eq_true h.1.2,fun k h1 h2 h3=>by rw[<-zih h1 h2 h3];exact zub h.2 k h1⟩
structure PairOk (at':Int) (a b t:Q4):Prop where
 oka:zle a=true
 okb:zle b=true
 ta:a.2.2.2=at'
 tb:b.2.2.2=at'
 ra:a.1=t.2.1
 rb:b.1=t.2.2.1
 ua:a.2.1=t.2.2.2
 ub:b.2.1=t.2.2.2
theorem zg1{at':Int}{a b t:Q4}(h:zkn at' a b t=true):PairOk at' a b t:=by unfold zkn at h;simp only[bae,decide_eq_true_eq]at h;exact⟨h.1.1.1.1.1.1.1,h.1.1.1.1.1.1.2,h.1.1.1.1.1.2,h.1.1.1.1.2,h.1.1.1.2,h.1.1.2,h.1.2,h.2⟩
theorem z1v{at':Int}{a b t:Q4}(h:PairOk at' a b t):zkn at' a b t=true:=by unfold zkn;simp only[bae,decide_eq_true_eq];exact⟨⟨⟨⟨⟨⟨⟨h.oka,h.okb⟩,h.ta⟩,h.tb⟩,h.ra⟩,h.rb⟩,h.ua⟩,h.ub⟩
def zjc(now:Int)(b:Q4):Q4:=(b.1,b.2.1,zom b.1 b.2.1 b.2.2.1 b.2.2.2 now,zsa b.2.2.2 now)
def za1(now:Int)(O:List Q4):List Q4:=O.map (zjc now)
theorem zaw(now:Int)(O:List Q4):(za1 now O).length=O.length:=List.length_map ..
theorem zgh{now:Int}{O:List Q4}{k:Nat}(h:k<O.length)(h':k<(za1 now O).length):(za1 now O)[k]=zjc now O[k]:=by simp[za1]
theorem zii{now:Int}{b:Q4}(h:zle b=true)(hn:zba now=true):zle (zjc now b)=true:=by
 have hb:=zi2 h;have hnn:=zlp hn;have hf:=zsb (r:=b.1) (u:=b.2.1) (l:=b.2.2.1) (t:=b.2.2.2) (now:=now) hb.2.1 hb.2.2.1 hb.1.1;unfold zle zj0 at h ⊢;rw[bae,bae,bae]at h ⊢;refine⟨⟨h.1.1,?_⟩,?_⟩
 ·simp only[zjc];unfold zw4;rw[bae];exact⟨decide_eq_true hf.1,decide_eq_true hf.2⟩
 ·simp only[zjc];unfold zsa;split
  ·exact h.2
  ·exact hn
def zdz(O:List Q4)(k:Int):Int:=match O[k.toNat]? with|some b=>b.2.2.1|none=>0
theorem zjd{O:List Q4}{k:Nat}(h:k<O.length):zdz O (k:Int)=O[k].2.2.1:=by unfold zdz;rw[Int.toNat_natCast,List.getElem?_eq_getElem h]
def zer(O P:List Q4)(n:Int)(path:List Int):Nat->Option Int
 | 0=>some (-1)
 | j+1=>match zer O P n path j with
  | none=>none
  | some who=>match path[j]? with
   | none=>some who| some c=>if zdz P c<1000000000*n then none else some (if who<0/\1000000000*n<=zdz O c then (j:Int) else who)
def zh1(O P:List Q4)(n:Int)(path:List Int):Int:=match zer O P n path path.length with|some who=>who|none=>-1
theorem zuc{O P:List Q4}{n:Int}{path:List Int}{j:Nat}(h:zer O P n path j=none):∀d,zer O P n path (j+d)=none
 | 0=>h| d+1=>by show (match zer O P n path (j+d) with|none=>none|some who=>_)=none;rw[zuc h d]
section
variable{O P:List Q4}{n who:Int}{path:List Int}{j:Nat}
theorem z1w(hj:j<path.length)(h:zer O P n path j=some who)(hl:zdz P path[j]<1000000000*n):zh1 O P n path = -1:=by
 have e:zer O P n path (j+1)=none:=by show (match zer O P n path j with|none=>none|some who=>_)=none;rw[h,List.getElem?_eq_getElem hj];simp[hl]
 have s:=zuc e (path.length-(j+1));rw[show j+1+(path.length-(j+1))=path.length by omega]at s;unfold zh1;rw[s]
theorem zzp(hj:j<path.length)(h:zer O P n path j=some who)(hl:¬zdz P path[j]<1000000000*n):
 zer O P n path (j+1)=some (if who<0/\1000000000*n<=zdz O path[j] then (j:Int) else who):=by
 show (match zer O P n path j with|none=>none|some who=>_)=_;rw[h,List.getElem?_eq_getElem hj];simp only[if_neg hl]
end
theorem zqm{O P:List Q4}{n:Int}{path:List Int}:∀{j:Nat} {who:Int},zer O P n path j=some who->who = -1\/(0<=who/\who<j)
 | 0,who,h=>.inl (osi h).symm
 | j+1,who,h=>by
  have h':(match zer O P n path j with|none=>none|some who=>match path[j]? with|none=>some who|some c=>if zdz P c<1000000000*n then none else some (if who<0/\1000000000*n<=zdz O c then (j:Int) else who))=some who:=h;cases h1:zer O P n path j with
  | none=>rw[h1]at h';cases h'
  | some w0 =>
   rw[h1]at h';have ih:=zqm h1;cases h2:path[j]? with
   | none =>rw[h2]at h';have e:w0=who:=osi h';omega
   | some c =>
    rw[h2]at h';simp only at h';split at h'
    ·cases h'
    ·have e:=osi h';split at e
     ·omega
     ·omega
theorem zvo(O P:List Q4)(n:Int)(path:List Int):zh1 O P n path = -1\/(0<=zh1 O P n path/\zh1 O P n path<path.length):=by
 unfold zh1;cases h:zer O P n path path.length with
 | none=>exact .inl rfl| some who=>exact zqm h
theorem zc3{r u l t:Int}{f:Bool}(h:zj0 r u l t=f)(w:World):Calls Tryz.prog 145 #[.agg #[.int .i64 r,.int .i64 u,.int .i64 l,.int .i64 t]] w fun e w'=>e=.returned (.bool f)/\Bw w w':=by subst h;exact zke r u l t w
theorem ze4{w:World}{a:Option Addr}(cap:Nat){ts:List Q4}{c:Int}(hc:zal ts=c)(h:Qw w a ts):
 Calls Tryz.prog 93 #[.slice a ts.length cap] w fun e w'=>e=.returned (.int .i64 c)/\Bw w w':=by subst hc;exact zdi cap h
section
variable{T O P:List Q4}
theorem zud(h:¬zal T=0):zbp T O P=false:=by unfold zbp;rw[decide_eq_false h];rfl
theorem zue(h:¬O.length=T.length):zbp T O P=false:=by unfold zbp;rw[decide_eq_false h,Bool.and_false];rfl
theorem zuf(h:¬P.length=T.length):zbp T O P=false:=by unfold zbp;rw[decide_eq_false h,Bool.and_false];rfl
theorem zd4{k:Nat}(h:zfw T O P k=false)(hk:k<T.length):zbp T O P=false:=by unfold zbp;rw[zzo h hk,Bool.and_false]
theorem zug(h1:zal T=0)(h2:O.length=T.length)(h3:P.length=T.length)(h4:zdq T O P T.length=true):zbp T O P=true:=by unfold zbp;rw[decide_eq_true h1,decide_eq_true h2,decide_eq_true h3,h4];rfl
end
theorem zcn{A ar au al at' br bu bl bt tp tr tc tu:Int}:zkn A (ar,au,al,at') (br,bu,bl,bt) (tp,tr,tc,tu)=(((((((zj0 ar au al at' && zj0 br bu bl bt) && decide (at'=A)) && decide (bt=A)) && decide (ar=tr)) && decide (br=tc)) && decide (au=tu)) && decide (bu=tu)):=rfl
section
variable{w:World}{aT aO aP:Option Addr}(cT cO cP:Nat){T O P:List Q4}
theorem znc(hT:Qw w aT T)(hO:Qw w aO O)(hP:Qw w aP P):
 Calls Tryz.prog 94 #[zea aT T.length cT aO O.length cO aP P.length cP] w fun e w'=>e=.returned (.bool (zbp T O P))/\Bw w w':=by
 by_cases hc:zal T=0;rotate_left
 ·have HC:Hid (zbp T O P=false):=zud hc;have nb:Bw w (w.alloc (.cells #[.slice aT T.length cT,.slice aO O.length cO,.slice aP P.length cP] 27)):=zad _ _;have hc':(zal T == 0)=false:=(by simp[hc]);go_enter Tryz.func94,Tryz.ntmps94;go_wp2_with (first|(go_at_call 93;refine (zdi cT (hT.here nb)).mono ?_;rintro e w2 ⟨rfl,hb2⟩));go_ret;exact⟨zlo HC.out.symm,zag nb hb2⟩
 by_cases hlo:O.length=T.length;rotate_left
 ·have HC:Hid (zbp T O P=false):=zue hlo;have nb:Bw w (w.alloc (.cells #[.slice aT T.length cT,.slice aO O.length cO,.slice aP P.length cP] 27)):=zad _ _;have hl':((O.length:Int) == (T.length:Int))=false:=(by rw[beq_eq_false_iff_ne];omega);have c1:(w.alloc (.cells #[.slice aT T.length cT,.slice aO O.length cO,.slice aP P.length cP] 27)).cell? ⟨w.heap.size,1,none⟩=some (.slice aO O.length cO):=(by go_simp);have zb:w.heap.size<(w.alloc (.cells #[.slice aT T.length cT,.slice aO O.length cO,.slice aP P.length cP] 27)).heap.size:=(by simp);go_enter Tryz.func94,Tryz.ntmps94;go_wp2_with (first|(go_at_call 93;refine (ze4 cT hc (hT.here nb)).mono ?_;rintro e w2 ⟨rfl,hb2⟩;have k1:=(zai hb2 _ _ zb).trans c1));go_ret;exact⟨zlo HC.out.symm,zag nb hb2⟩
 by_cases hlp:P.length=T.length;rotate_left
 ·have HC:Hid (zbp T O P=false):=zuf hlp;have HLO:Hid (O.length=T.length):=hlo;rw[hlo];have nb:Bw w (w.alloc (.cells #[.slice aT T.length cT,.slice aO T.length cO,.slice aP P.length cP] 27)):=zad _ _;have hl':((P.length:Int) == (T.length:Int))=false:=(by rw[beq_eq_false_iff_ne];omega);have c1:(w.alloc (.cells #[.slice aT T.length cT,.slice aO T.length cO,.slice aP P.length cP] 27)).cell? ⟨w.heap.size,1,none⟩=some (.slice aO T.length cO):=(by go_simp);have c2:(w.alloc (.cells #[.slice aT T.length cT,.slice aO T.length cO,.slice aP P.length cP] 27)).cell? ⟨w.heap.size,2,none⟩=some (.slice aP P.length cP):=(by go_simp);have zb:w.heap.size<(w.alloc (.cells #[.slice aT T.length cT,.slice aO T.length cO,.slice aP P.length cP] 27)).heap.size:=(by simp);clear hlo;go_enter Tryz.func94,Tryz.ntmps94;go_wp2_with (first|(go_at_call 93;refine (ze4 cT hc (hT.here nb)).mono ?_;rintro e w2 ⟨rfl,hb2⟩;have k1:=(zai hb2 _ _ zb).trans c1;have k2:=(zai hb2 _ _ zb).trans c2));go_ret;exact⟨zlo HC.out.symm,zag nb hb2⟩
 have ht:=zgz hc;have hl1:=ht.l0;have hl30:=ht.l1;clear ht;have HLO:Hid (O.length=T.length):=hlo;have HLP:Hid (P.length=T.length):=hlp;rw[hlo,hlp];clear hlo hlp;have h0O:0<O.length:=by have:=HLO.out;omega
 have hln:(T.length:Int)<=30:=by omega
 have hl0:(0:Int)<(T.length:Int):=by omega
 obtain⟨A,hA⟩:∃A,O[0].2.2.2=A:=⟨_,rfl⟩;have HA:Hid (zeq O=A):=by show zeq O=A;unfold zeq;rw[List.getElem?_eq_getElem h0O,<-hA]
 obtain⟨bo,oo,hao,hbo,_,_,_,qA⟩:=hO.at (brf _ _) 0 h0O;rw[hA,Nat.zero_mul,Nat.add_zero]at qA;subst hao;clear hA;have nb:Bw w (w.alloc (.cells #[.slice aT T.length cT,.slice (some ⟨bo,oo,none⟩) T.length cO,.slice aP T.length cP] 27)):=zad _ _;have c0:(w.alloc (.cells #[.slice aT T.length cT,.slice (some ⟨bo,oo,none⟩) T.length cO,.slice aP T.length cP] 27)).cell? ⟨w.heap.size,0,none⟩=some (.slice aT T.length cT):=by go_simp
 have c1:(w.alloc (.cells #[.slice aT T.length cT,.slice (some ⟨bo,oo,none⟩) T.length cO,.slice aP T.length cP] 27)).cell? ⟨w.heap.size,1,none⟩=some (.slice (some ⟨bo,oo,none⟩) T.length cO):=by go_simp
 have c2:(w.alloc (.cells #[.slice aT T.length cT,.slice (some ⟨bo,oo,none⟩) T.length cO,.slice aP T.length cP] 27)).cell? ⟨w.heap.size,2,none⟩=some (.slice aP T.length cP):=by go_simp
 have zb:w.heap.size<(w.alloc (.cells #[.slice aT T.length cT,.slice (some ⟨bo,oo,none⟩) T.length cO,.slice aP T.length cP] 27)).heap.size:=by simp
 go_enter Tryz.func94,Tryz.ntmps94;go_upto_region 5 with (go_at_call 93;refine (ze4 cT hc (hT.here nb)).mono ?_;rintro e w2 ⟨rfl,hb2⟩;have k0:=(zai hb2 _ _ zb).trans c0;have k1:=(zai hb2 _ _ zb).trans c1;have k2:=(zai hb2 _ _ zb).trans c2;have kA:=((zag nb hb2).cell (p:=⟨bo,oo+3,none⟩) hbo).trans qA);go_wp2;clear kA;have hb0:Bw w w2:=zag nb hb2;have zb2:w.heap.size<w2.heap.size:=nlt zb hb2.size;clear c0 c1 c2 zb nb hb2;go_loopw [5] (fun i wr=>∃k:Nat,i=.int .i64 k/\k<=T.length/\Hid (zdq T O P k=true)/\Bw w2 wr) (fun i _=>T.length-(intOf i).toNat);case atStart=>exact⟨0,rfl,by omega,rfl,brf _ _⟩
 case round =>
  obtain⟨k,rfl,hk,HF,hbr⟩:=hrel;have q0:=(zai hbr _ _ zb2).trans k0;have q1:=(zai hbr _ _ zb2).trans k1;have q2:=(zai hbr _ _ zb2).trans k2;clear k0 k1 k2;have hbw:Bw w wr:=zag hb0 hbr;have zr:=hbr.size;have zr':w.heap.size<wr.heap.size:=(by omega);by_cases hlt:k<T.length
  ·have hlt':(k:Int)<(T.length:Int):=(by omega);have hko:k<O.length:=(by have:=HLO.out;omega);have hkp:k<P.length:=(by have:=HLP.out;omega);obtain⟨_,_,e1,hb1,x0,x1,x2,x3⟩:=hO.at hbw k hko;cases e1
   obtain⟨bp,op,rfl,hb4,y0,y1,y2,y3⟩:=hP.at hbw k hkp;obtain⟨bt',ot,rfl,hb5,t0,t1,t2,t3⟩:=hT.at hbw k hlt;have HPA:=zih hlt hko hkp;obtain⟨xa,hxa⟩:∃x,O[k]=x:=⟨_,rfl⟩;obtain⟨xb,hxb⟩:∃x,P[k]=x:=⟨_,rfl⟩;obtain⟨xt,hxt⟩:∃x,T[k]=x:=⟨_,rfl⟩;rw[hxa,hxb,hxt,HA.out]at HPA;rw[hxa]at x0 x1 x2 x3;rw[hxb]at y0 y1 y2 y3;rw[hxt]at t0 t1 t2 t3;obtain⟨ar,au,al,at'⟩:=xa;obtain⟨br,bu,bl,bt⟩:=xb;obtain⟨tp,tr,tc,tu⟩:=xt;simp only at x0 x1 x2 x3 y0 y1 y2 y3 t0 t1 t2 t3;clear hxa hxb hxt;have HPA:Hid (zfw T O P k=zkn A (ar,au,al,at') (br,bu,bl,bt) (tp,tr,tc,tu)):=HPA;have hbq:Bw w2 (((wr.alloc (.cells #[.int .i64 ar,.int .i64 au,.int .i64 al,.int .i64 at'] 53)).alloc (.cells #[.int .i64 br,.int .i64 bu,.int .i64 bl,.int .i64 bt] 53)).alloc (.cells #[.int .i64 tp,.int .i64 tr,.int .i64 tc,.int .i64 tu] 110)):=(by go_grown);have hbq2:Bw w (((wr.alloc (.cells #[.int .i64 ar,.int .i64 au,.int .i64 al,.int .i64 at'] 53)).alloc (.cells #[.int .i64 br,.int .i64 bu,.int .i64 bl,.int .i64 bt] 53)).alloc (.cells #[.int .i64 tp,.int .i64 tr,.int .i64 tc,.int .i64 tu] 110)):=(by go_grown);have KC:Hid (Cells (((wr.alloc (.cells #[.int .i64 ar,.int .i64 au,.int .i64 al,.int .i64 at'] 53)).alloc (.cells #[.int .i64 br,.int .i64 bu,.int .i64 bl,.int .i64 bt] 53)).alloc (.cells #[.int .i64 tp,.int .i64 tr,.int .i64 tc,.int .i64 tu] 110)) [(wr.heap.size,0,.int .i64 ar),(wr.heap.size,1,.int .i64 au),(wr.heap.size,2,.int .i64 al),(wr.heap.size,3,.int .i64 at'),(wr.heap.size+1,0,.int .i64 br),(wr.heap.size+1,1,.int .i64 bu),(wr.heap.size+1,2,.int .i64 bl),(wr.heap.size+1,3,.int .i64 bt),(wr.heap.size+2,0,.int .i64 tp),(wr.heap.size+2,1,.int .i64 tr),(wr.heap.size+2,2,.int .i64 tc),(wr.heap.size+2,3,.int .i64 tu)]):=⟨⟨by simp<;>omega,by go_simp⟩,⟨by simp<;>omega,by go_simp⟩,⟨by simp<;>omega,by go_simp⟩,⟨by simp<;>omega,by go_simp⟩,⟨by simp<;>omega,by go_simp⟩,⟨by simp<;>omega,by go_simp⟩,⟨by simp<;>omega,by go_simp⟩,⟨by simp<;>omega,by go_simp⟩,⟨by simp<;>omega,by go_simp⟩,⟨by simp<;>omega,by go_simp⟩,⟨by simp<;>omega,by go_simp⟩,⟨by simp<;>omega,by go_simp⟩,trivial⟩;have s1:bo<wr.heap.size:=(by omega);have s2:bp<wr.heap.size:=(by omega);have s3:bt'<wr.heap.size:=(by omega);have s4:bt'<wr.heap.size+1:=(by omega);have s5:w.heap.size<wr.heap.size+1:=(by omega);cases h1:zj0 ar au al at'
   ·skip;have HC:Hid (zbp T O P=false):=zd4 (k:=k) (by rw[HPA.out,zcn];simp[h1]) hlt;clear HPA;go_upto_region 11 with (fail);go_wp2_with (first|(go_at_call 145;refine (zc3 h1 _).mono ?_;rintro e w5 ⟨rfl,hb2⟩;have C2:Hid (Cells w5 [(wr.heap.size,0,.int .i64 ar),(wr.heap.size,1,.int .i64 au),(wr.heap.size,2,.int .i64 al),(wr.heap.size,3,.int .i64 at'),(wr.heap.size+1,0,.int .i64 br),(wr.heap.size+1,1,.int .i64 bu),(wr.heap.size+1,2,.int .i64 bl),(wr.heap.size+1,3,.int .i64 bt),(wr.heap.size+2,0,.int .i64 tp),(wr.heap.size+2,1,.int .i64 tr),(wr.heap.size+2,2,.int .i64 tc),(wr.heap.size+2,3,.int .i64 tu)]):=KC.out.next hb2;have ⟨⟨_,k0⟩,⟨_,k1⟩,⟨_,k2⟩,⟨_,k3⟩,⟨_,k4⟩,⟨_,k5⟩,⟨_,k6⟩,⟨_,k7⟩,⟨_,k8⟩,⟨_,k9⟩,⟨_,k10⟩,⟨_,k11⟩,_⟩:=C2.out;have hby:=zag hbq hb2;have hby2:=zag hbq2 hb2;have m1:=h1));go_ret;exact⟨zlo HC.out.symm,hby2⟩
   ·skip;cases h2:zj0 br bu bl bt
    ·skip;have HC:Hid (zbp T O P=false):=zd4 (k:=k) (by rw[HPA.out,zcn];simp[h1,h2]) hlt;clear HPA;go_upto_region 11 with (fail);go_wp2_with (first|(go_at_call 145;have g1:=m1;refine (zc3 h2 _).mono ?_;rintro e w6 ⟨rfl,hb3⟩;have C3:=C2.out.next hb3;have ⟨⟨_,j0⟩,⟨_,j1⟩,⟨_,j2⟩,⟨_,j3⟩,⟨_,j4⟩,⟨_,j5⟩,⟨_,j6⟩,⟨_,j7⟩,⟨_,j8⟩,⟨_,j9⟩,⟨_,j10⟩,⟨_,j11⟩,_⟩:=C3;clear C3;have hbz:=zag hby hb3;have hbz2:=zag hby2 hb3)|(go_at_call 145;refine (zc3 h1 _).mono ?_;rintro e w5 ⟨rfl,hb2⟩;have C2:Hid (Cells w5 [(wr.heap.size,0,.int .i64 ar),(wr.heap.size,1,.int .i64 au),(wr.heap.size,2,.int .i64 al),(wr.heap.size,3,.int .i64 at'),(wr.heap.size+1,0,.int .i64 br),(wr.heap.size+1,1,.int .i64 bu),(wr.heap.size+1,2,.int .i64 bl),(wr.heap.size+1,3,.int .i64 bt),(wr.heap.size+2,0,.int .i64 tp),(wr.heap.size+2,1,.int .i64 tr),(wr.heap.size+2,2,.int .i64 tc),(wr.heap.size+2,3,.int .i64 tu)]):=KC.out.next hb2;have ⟨⟨_,k0⟩,⟨_,k1⟩,⟨_,k2⟩,⟨_,k3⟩,⟨_,k4⟩,⟨_,k5⟩,⟨_,k6⟩,⟨_,k7⟩,⟨_,k8⟩,⟨_,k9⟩,⟨_,k10⟩,⟨_,k11⟩,_⟩:=C2.out;have hby:=zag hbq hb2;have hby2:=zag hbq2 hb2;have m1:=h1));go_ret;exact⟨zlo HC.out.symm,hbz2⟩
    ·skip;by_cases h3:at'=A;rotate_left
     ·skip;have HC:Hid (zbp T O P=false):=zd4 (k:=k) (by rw[HPA.out,zcn];simp[h1,h2,h3]) hlt;have h3':(at' == A)=false:=(by simp[h3]);clear HPA;go_upto_region 11 with (fail);go_wp2_with (first|(go_at_call 145;have g1:=m1;refine (zc3 h2 _).mono ?_;rintro e w6 ⟨rfl,hb3⟩;have C3:=C2.out.next hb3;have ⟨⟨_,j0⟩,⟨_,j1⟩,⟨_,j2⟩,⟨_,j3⟩,⟨_,j4⟩,⟨_,j5⟩,⟨_,j6⟩,⟨_,j7⟩,⟨_,j8⟩,⟨_,j9⟩,⟨_,j10⟩,⟨_,j11⟩,_⟩:=C3;clear C3;have hbz:=zag hby hb3;have hbz2:=zag hby2 hb3)|(go_at_call 145;refine (zc3 h1 _).mono ?_;rintro e w5 ⟨rfl,hb2⟩;have C2:Hid (Cells w5 [(wr.heap.size,0,.int .i64 ar),(wr.heap.size,1,.int .i64 au),(wr.heap.size,2,.int .i64 al),(wr.heap.size,3,.int .i64 at'),(wr.heap.size+1,0,.int .i64 br),(wr.heap.size+1,1,.int .i64 bu),(wr.heap.size+1,2,.int .i64 bl),(wr.heap.size+1,3,.int .i64 bt),(wr.heap.size+2,0,.int .i64 tp),(wr.heap.size+2,1,.int .i64 tr),(wr.heap.size+2,2,.int .i64 tc),(wr.heap.size+2,3,.int .i64 tu)]):=KC.out.next hb2;have ⟨⟨_,k0⟩,⟨_,k1⟩,⟨_,k2⟩,⟨_,k3⟩,⟨_,k4⟩,⟨_,k5⟩,⟨_,k6⟩,⟨_,k7⟩,⟨_,k8⟩,⟨_,k9⟩,⟨_,k10⟩,⟨_,k11⟩,_⟩:=C2.out;have hby:=zag hbq hb2;have hby2:=zag hbq2 hb2;have m1:=h1));go_ret;exact⟨zlo HC.out.symm,hbz2⟩
     ·subst at';by_cases h4:bt=A;rotate_left
      ·skip;have HC:Hid (zbp T O P=false):=zd4 (k:=k) (by rw[HPA.out,zcn];simp[h1,h2,h4]) hlt;have h4':(bt == A)=false:=(by simp[h4]);clear HPA;go_upto_region 11 with (fail);go_wp2_with (first|(go_at_call 145;have g1:=m1;refine (zc3 h2 _).mono ?_;rintro e w6 ⟨rfl,hb3⟩;have C3:=C2.out.next hb3;have ⟨⟨_,j0⟩,⟨_,j1⟩,⟨_,j2⟩,⟨_,j3⟩,⟨_,j4⟩,⟨_,j5⟩,⟨_,j6⟩,⟨_,j7⟩,⟨_,j8⟩,⟨_,j9⟩,⟨_,j10⟩,⟨_,j11⟩,_⟩:=C3;clear C3;have hbz:=zag hby hb3;have hbz2:=zag hby2 hb3)|(go_at_call 145;refine (zc3 h1 _).mono ?_;rintro e w5 ⟨rfl,hb2⟩;have C2:Hid (Cells w5 [(wr.heap.size,0,.int .i64 ar),(wr.heap.size,1,.int .i64 au),(wr.heap.size,2,.int .i64 al),(wr.heap.size,3,.int .i64 A),(wr.heap.size+1,0,.int .i64 br),(wr.heap.size+1,1,.int .i64 bu),(wr.heap.size+1,2,.int .i64 bl),(wr.heap.size+1,3,.int .i64 bt),(wr.heap.size+2,0,.int .i64 tp),(wr.heap.size+2,1,.int .i64 tr),(wr.heap.size+2,2,.int .i64 tc),(wr.heap.size+2,3,.int .i64 tu)]):=KC.out.next hb2;have ⟨⟨_,k0⟩,⟨_,k1⟩,⟨_,k2⟩,⟨_,k3⟩,⟨_,k4⟩,⟨_,k5⟩,⟨_,k6⟩,⟨_,k7⟩,⟨_,k8⟩,⟨_,k9⟩,⟨_,k10⟩,⟨_,k11⟩,_⟩:=C2.out;have hby:=zag hbq hb2;have hby2:=zag hbq2 hb2;have m1:=h1));go_ret;exact⟨zlo HC.out.symm,hbz2⟩
      ·subst bt;by_cases h5:ar=tr;rotate_left
       ·skip;have HC:Hid (zbp T O P=false):=zd4 (k:=k) (by rw[HPA.out,zcn];simp[h1,h2,h5]) hlt;have h5':(ar == tr)=false:=(by simp[h5]);clear HPA;go_upto_region 11 with (fail);go_wp2_with (first|(go_at_call 145;have g1:=m1;refine (zc3 h2 _).mono ?_;rintro e w6 ⟨rfl,hb3⟩;have C3:=C2.out.next hb3;have ⟨⟨_,j0⟩,⟨_,j1⟩,⟨_,j2⟩,⟨_,j3⟩,⟨_,j4⟩,⟨_,j5⟩,⟨_,j6⟩,⟨_,j7⟩,⟨_,j8⟩,⟨_,j9⟩,⟨_,j10⟩,⟨_,j11⟩,_⟩:=C3;clear C3;have hbz:=zag hby hb3;have hbz2:=zag hby2 hb3)|(go_at_call 145;refine (zc3 h1 _).mono ?_;rintro e w5 ⟨rfl,hb2⟩;have C2:Hid (Cells w5 [(wr.heap.size,0,.int .i64 ar),(wr.heap.size,1,.int .i64 au),(wr.heap.size,2,.int .i64 al),(wr.heap.size,3,.int .i64 A),(wr.heap.size+1,0,.int .i64 br),(wr.heap.size+1,1,.int .i64 bu),(wr.heap.size+1,2,.int .i64 bl),(wr.heap.size+1,3,.int .i64 A),(wr.heap.size+2,0,.int .i64 tp),(wr.heap.size+2,1,.int .i64 tr),(wr.heap.size+2,2,.int .i64 tc),(wr.heap.size+2,3,.int .i64 tu)]):=KC.out.next hb2;have ⟨⟨_,k0⟩,⟨_,k1⟩,⟨_,k2⟩,⟨_,k3⟩,⟨_,k4⟩,⟨_,k5⟩,⟨_,k6⟩,⟨_,k7⟩,⟨_,k8⟩,⟨_,k9⟩,⟨_,k10⟩,⟨_,k11⟩,_⟩:=C2.out;have hby:=zag hbq hb2;have hby2:=zag hbq2 hb2;have m1:=h1));go_ret;exact⟨zlo HC.out.symm,hbz2⟩
       ·subst ar;by_cases h6:br=tc;rotate_left
        ·skip;have HC:Hid (zbp T O P=false):=zd4 (k:=k) (by rw[HPA.out,zcn];simp[h1,h2,h6]) hlt;have h6':(br == tc)=false:=(by simp[h6]);clear HPA;go_upto_region 11 with (fail);go_wp2_with (first|(go_at_call 145;have g1:=m1;refine (zc3 h2 _).mono ?_;rintro e w6 ⟨rfl,hb3⟩;have C3:=C2.out.next hb3;have ⟨⟨_,j0⟩,⟨_,j1⟩,⟨_,j2⟩,⟨_,j3⟩,⟨_,j4⟩,⟨_,j5⟩,⟨_,j6⟩,⟨_,j7⟩,⟨_,j8⟩,⟨_,j9⟩,⟨_,j10⟩,⟨_,j11⟩,_⟩:=C3;clear C3;have hbz:=zag hby hb3;have hbz2:=zag hby2 hb3)|(go_at_call 145;refine (zc3 h1 _).mono ?_;rintro e w5 ⟨rfl,hb2⟩;have C2:Hid (Cells w5 [(wr.heap.size,0,.int .i64 tr),(wr.heap.size,1,.int .i64 au),(wr.heap.size,2,.int .i64 al),(wr.heap.size,3,.int .i64 A),(wr.heap.size+1,0,.int .i64 br),(wr.heap.size+1,1,.int .i64 bu),(wr.heap.size+1,2,.int .i64 bl),(wr.heap.size+1,3,.int .i64 A),(wr.heap.size+2,0,.int .i64 tp),(wr.heap.size+2,1,.int .i64 tr),(wr.heap.size+2,2,.int .i64 tc),(wr.heap.size+2,3,.int .i64 tu)]):=KC.out.next hb2;have ⟨⟨_,k0⟩,⟨_,k1⟩,⟨_,k2⟩,⟨_,k3⟩,⟨_,k4⟩,⟨_,k5⟩,⟨_,k6⟩,⟨_,k7⟩,⟨_,k8⟩,⟨_,k9⟩,⟨_,k10⟩,⟨_,k11⟩,_⟩:=C2.out;have hby:=zag hbq hb2;have hby2:=zag hbq2 hb2;have m1:=h1));go_ret;exact⟨zlo HC.out.symm,hbz2⟩
        ·subst br;by_cases h7:au=tu;rotate_left
         ·skip;have HC:Hid (zbp T O P=false):=zd4 (k:=k) (by rw[HPA.out,zcn];simp[h1,h2,h7]) hlt;have h7':(au == tu)=false:=(by simp[h7]);clear HPA;go_upto_region 11 with (fail);go_wp2_with (first|(go_at_call 145;have g1:=m1;refine (zc3 h2 _).mono ?_;rintro e w6 ⟨rfl,hb3⟩;have C3:=C2.out.next hb3;have ⟨⟨_,j0⟩,⟨_,j1⟩,⟨_,j2⟩,⟨_,j3⟩,⟨_,j4⟩,⟨_,j5⟩,⟨_,j6⟩,⟨_,j7⟩,⟨_,j8⟩,⟨_,j9⟩,⟨_,j10⟩,⟨_,j11⟩,_⟩:=C3;clear C3;have hbz:=zag hby hb3;have hbz2:=zag hby2 hb3)|(go_at_call 145;refine (zc3 h1 _).mono ?_;rintro e w5 ⟨rfl,hb2⟩;have C2:Hid (Cells w5 [(wr.heap.size,0,.int .i64 tr),(wr.heap.size,1,.int .i64 au),(wr.heap.size,2,.int .i64 al),(wr.heap.size,3,.int .i64 A),(wr.heap.size+1,0,.int .i64 tc),(wr.heap.size+1,1,.int .i64 bu),(wr.heap.size+1,2,.int .i64 bl),(wr.heap.size+1,3,.int .i64 A),(wr.heap.size+2,0,.int .i64 tp),(wr.heap.size+2,1,.int .i64 tr),(wr.heap.size+2,2,.int .i64 tc),(wr.heap.size+2,3,.int .i64 tu)]):=KC.out.next hb2;have ⟨⟨_,k0⟩,⟨_,k1⟩,⟨_,k2⟩,⟨_,k3⟩,⟨_,k4⟩,⟨_,k5⟩,⟨_,k6⟩,⟨_,k7⟩,⟨_,k8⟩,⟨_,k9⟩,⟨_,k10⟩,⟨_,k11⟩,_⟩:=C2.out;have hby:=zag hbq hb2;have hby2:=zag hbq2 hb2;have m1:=h1));go_ret;exact⟨zlo HC.out.symm,hbz2⟩
         ·subst au;by_cases h8:bu=tu;rotate_left
          ·skip;have HC:Hid (zbp T O P=false):=zd4 (k:=k) (by rw[HPA.out,zcn];simp[h1,h2,h8]) hlt;have h8':(bu == tu)=false:=(by simp[h8]);clear HPA;go_upto_region 11 with (fail);go_wp2_with (first|(go_at_call 145;have g1:=m1;refine (zc3 h2 _).mono ?_;rintro e w6 ⟨rfl,hb3⟩;have C3:=C2.out.next hb3;have ⟨⟨_,j0⟩,⟨_,j1⟩,⟨_,j2⟩,⟨_,j3⟩,⟨_,j4⟩,⟨_,j5⟩,⟨_,j6⟩,⟨_,j7⟩,⟨_,j8⟩,⟨_,j9⟩,⟨_,j10⟩,⟨_,j11⟩,_⟩:=C3;clear C3;have hbz:=zag hby hb3;have hbz2:=zag hby2 hb3)|(go_at_call 145;refine (zc3 h1 _).mono ?_;rintro e w5 ⟨rfl,hb2⟩;have C2:Hid (Cells w5 [(wr.heap.size,0,.int .i64 tr),(wr.heap.size,1,.int .i64 tu),(wr.heap.size,2,.int .i64 al),(wr.heap.size,3,.int .i64 A),(wr.heap.size+1,0,.int .i64 tc),(wr.heap.size+1,1,.int .i64 bu),(wr.heap.size+1,2,.int .i64 bl),(wr.heap.size+1,3,.int .i64 A),(wr.heap.size+2,0,.int .i64 tp),(wr.heap.size+2,1,.int .i64 tr),(wr.heap.size+2,2,.int .i64 tc),(wr.heap.size+2,3,.int .i64 tu)]):=KC.out.next hb2;have ⟨⟨_,k0⟩,⟨_,k1⟩,⟨_,k2⟩,⟨_,k3⟩,⟨_,k4⟩,⟨_,k5⟩,⟨_,k6⟩,⟨_,k7⟩,⟨_,k8⟩,⟨_,k9⟩,⟨_,k10⟩,⟨_,k11⟩,_⟩:=C2.out;have hby:=zag hbq hb2;have hby2:=zag hbq2 hb2;have m1:=h1));go_ret;exact⟨zlo HC.out.symm,hbz2⟩
          ·subst bu;have HPB:Hid (zdq T O P (k+1)=true):=(by show (zdq T O P k && zfw T O P k)=true;rw[HF.out,HPA.out,zcn];simp[h1,h2]);clear HPA;go_upto_region 11 with (fail);go_wp2_with (first|(go_at_call 145;have g1:=m1;refine (zc3 h2 _).mono ?_;rintro e w6 ⟨rfl,hb3⟩;have C3:=C2.out.next hb3;have ⟨⟨_,j0⟩,⟨_,j1⟩,⟨_,j2⟩,⟨_,j3⟩,⟨_,j4⟩,⟨_,j5⟩,⟨_,j6⟩,⟨_,j7⟩,⟨_,j8⟩,⟨_,j9⟩,⟨_,j10⟩,⟨_,j11⟩,_⟩:=C3;clear C3;have hbz:=zag hby hb3;have hbz2:=zag hby2 hb3)|(go_at_call 145;refine (zc3 h1 _).mono ?_;rintro e w5 ⟨rfl,hb2⟩;have C2:Hid (Cells w5 [(wr.heap.size,0,.int .i64 tr),(wr.heap.size,1,.int .i64 tu),(wr.heap.size,2,.int .i64 al),(wr.heap.size,3,.int .i64 A),(wr.heap.size+1,0,.int .i64 tc),(wr.heap.size+1,1,.int .i64 tu),(wr.heap.size+1,2,.int .i64 bl),(wr.heap.size+1,3,.int .i64 A),(wr.heap.size+2,0,.int .i64 tp),(wr.heap.size+2,1,.int .i64 tr),(wr.heap.size+2,2,.int .i64 tc),(wr.heap.size+2,3,.int .i64 tu)]):=KC.out.next hb2;have ⟨⟨_,k0⟩,⟨_,k1⟩,⟨_,k2⟩,⟨_,k3⟩,⟨_,k4⟩,⟨_,k5⟩,⟨_,k6⟩,⟨_,k7⟩,⟨_,k8⟩,⟨_,k9⟩,⟨_,k10⟩,⟨_,k11⟩,_⟩:=C2.out;have hby:=zag hbq hb2;have hby2:=zag hbq2 hb2;have m1:=h1));go_roundw;case rel=>exact⟨k+1,by go_num,by omega,HPB,hbz⟩
           case measure=>simp[intOf]<;>omega
  ·have e:k=T.length:=(by omega);subst e;have HC:Hid (zbp T O P=true):=zug hc HLO.out HLP.out HF.out;go_wp2;go_ret;exact⟨zlo HC.out.symm,hbw⟩
theorem zbi{f:Bool}(hf:zbp T O P=f)(hT:Qw w aT T)(hO:Qw w aO O)(hP:Qw w aP P):
 Calls Tryz.prog 94 #[zea aT T.length cT aO O.length cO aP P.length cP] w fun e w'=>e=.returned (.bool f)/\Bw w w':=by subst hf;exact znc cT cO cP hT hO hP
end
def zcy(T O P:List Q4)(leaf now n:Int):Bool:=((((zbp T O P && (decide (0<=leaf) && decide (leaf<=(T.length:Int)-1))) && zdg T leaf) && zba now) && decide (zeq O<=now)) && zfo n
theorem zcl{x:Int}{f:Bool}(h:zba x=f)(w:World):Calls Tryz.prog 89 #[.int .i64 x] w fun e w'=>e=.returned (.bool f)/\w'=w:=by subst h;exact zlb x w
theorem zh2{x:Int}{f:Bool}(h:zfo x=f)(w:World):Calls Tryz.prog 71 #[.int .i64 x] w fun e w'=>e=.returned (.bool f)/\w'=w:=by subst h;exact z1n x w
theorem zda{w:World}{a:Option Addr}(cap:Nat){ts:List Q4}{i:Int}{f:Bool}(hf:zdg ts i=f)(h:Qw w a ts)(hl:ts.length<=1048576):
 Calls Tryz.prog 50 #[.slice a ts.length cap,.int .i64 i] w fun e w'=>e=.returned (.bool f)/\w'=w:=by subst hf;exact zgx cap i h hl
section
variable{w:World}{aT aO aP:Option Addr}(cT cO cP:Nat){T O P:List Q4}
theorem zvp(leaf now n:Int)(hT:Qw w aT T)(hO:Qw w aO O)(hP:Qw w aP P):
 Calls Tryz.prog 197 #[zea aT T.length cT aO O.length cO aP P.length cP,.int .i64 leaf,.int .i64 now,.int .i64 n] w fun e w'=>e=.returned (.bool (zcy T O P leaf now n))/\Bw w w':=by
 have nb:Bw w (w.alloc (.cells #[.slice aT T.length cT,.slice aO O.length cO,.slice aP P.length cP] 27)):=zad _ _;have c0:(w.alloc (.cells #[.slice aT T.length cT,.slice aO O.length cO,.slice aP P.length cP] 27)).cell? ⟨w.heap.size,0,none⟩=some (.slice aT T.length cT):=by go_simp
 have c1:(w.alloc (.cells #[.slice aT T.length cT,.slice aO O.length cO,.slice aP P.length cP] 27)).cell? ⟨w.heap.size,1,none⟩=some (.slice aO O.length cO):=by go_simp
 have zb:w.heap.size<(w.alloc (.cells #[.slice aT T.length cT,.slice aO O.length cO,.slice aP P.length cP] 27)).heap.size:=by simp
 cases h1:zbp T O P
 ·skip;have HC:Hid (zcy T O P leaf now n=false):=(show zcy T O P leaf now n=_ by unfold zcy;simp only[h1,Bool.false_and]);go_enter Tryz.func197,Tryz.ntmps197;go_wp2_with (first|(go_at_call 94;refine (zbi cT cO cP h1 (hT.here nb) (hO.here nb) (hP.here nb)).mono ?_;rintro e w2 ⟨rfl,hb2⟩;have hb3:=zag nb hb2));go_ret;exact⟨zlo HC.out.symm,hb3⟩
 have hd:=zbo h1;have hl0:=hd.tree.l0;have hl30:=hd.tree.l1;have h0O:0<O.length:=by have:=hd.lo;omega
 have HLO:Hid (O.length=T.length):=hd.lo;clear hd;obtain⟨A,hA⟩:∃A,O[0].2.2.2=A:=⟨_,rfl⟩;have hAt:zeq O=A:=by unfold zeq;rw[List.getElem?_eq_getElem h0O,<-hA]
 obtain⟨bo,oo,hao,hbo,_,_,_,qA⟩:=hO.at (brf _ _) 0 h0O;rw[hA,Nat.zero_mul,Nat.add_zero]at qA;subst hao;clear hA;have kA0:∀{w2:World},Bw w w2->w2.cell? ⟨bo,oo+3,none⟩=some (.int .i64 A):=fun h=>(h.cell (p:=⟨bo,oo+3,none⟩) hbo).trans qA;have h0':(0:Int)<(O.length:Int):=by omega
 have hTi:(T.length:Int)<=30:=by omega
 have hTj:(1:Int)<=(T.length:Int):=by omega
 cases h2:(decide (0<=leaf) && decide (leaf<=(T.length:Int)-1))
 ·skip;have HC:Hid (zcy T O P leaf now n=false):=(show zcy T O P leaf now n=_ by unfold zcy;simp only[h1,h2,Bool.true_and,Bool.false_and]);go_enter Tryz.func197,Tryz.ntmps197;go_wp2_with (first|(go_at_call 94;refine (zbi cT cO cP h1 (hT.here nb) (hO.here nb) (hP.here nb)).mono ?_;rintro e w2 ⟨rfl,hb2⟩;have hb3:=zag nb hb2;have k0:=(zai hb2 _ _ zb).trans c0;have k1:=(zai hb2 _ _ zb).trans c1;have kA:=kA0 hb3)|(go_at_call 48;refine same1 (zdy h2 _) ?_));go_ret;exact⟨zlo HC.out.symm,hb3⟩
 cases h3:zdg T leaf
 ·skip;have HC:Hid (zcy T O P leaf now n=false):=(show zcy T O P leaf now n=_ by unfold zcy;simp only[h1,h2,h3,Bool.true_and,Bool.false_and]);go_enter Tryz.func197,Tryz.ntmps197;go_wp2_with (first|(go_at_call 94;refine (zbi cT cO cP h1 (hT.here nb) (hO.here nb) (hP.here nb)).mono ?_;rintro e w2 ⟨rfl,hb2⟩;have hb3:=zag nb hb2;have k0:=(zai hb2 _ _ zb).trans c0;have k1:=(zai hb2 _ _ zb).trans c1;have kA:=kA0 hb3)|(go_at_call 48;refine same1 (zdy h2 _) ?_)|(go_at_call 50;refine same1 (zda cT h3 (hT.here hb3) (by omega)) ?_));go_ret;exact⟨zlo HC.out.symm,hb3⟩
 cases h4:zba now
 ·skip;have HC:Hid (zcy T O P leaf now n=false):=(show zcy T O P leaf now n=_ by unfold zcy;simp only[h1,h2,h3,h4,Bool.true_and,Bool.false_and]);go_enter Tryz.func197,Tryz.ntmps197;go_wp2_with (first|(go_at_call 94;refine (zbi cT cO cP h1 (hT.here nb) (hO.here nb) (hP.here nb)).mono ?_;rintro e w2 ⟨rfl,hb2⟩;have hb3:=zag nb hb2;have k0:=(zai hb2 _ _ zb).trans c0;have k1:=(zai hb2 _ _ zb).trans c1;have kA:=kA0 hb3)|(go_at_call 48;refine same1 (zdy h2 _) ?_)|(go_at_call 50;refine same1 (zda cT h3 (hT.here hb3) (by omega)) ?_)|(go_at_call 89;refine same1 (zcl h4 _) ?_));go_ret;exact⟨zlo HC.out.symm,hb3⟩
 by_cases h5:A<=now;rotate_left
 ·have h5':decide (A<=now)=false:=decide_eq_false h5;have h5x:decide (zeq O<=now)=false:=(by rw[hAt];exact h5');clear hAt;have HC:Hid (zcy T O P leaf now n=false):=(show zcy T O P leaf now n=_ by unfold zcy;simp only[h1,h2,h3,h4,h5x,Bool.true_and,Bool.false_and]);go_enter Tryz.func197,Tryz.ntmps197;go_wp2_with (first|(go_at_call 94;refine (zbi cT cO cP h1 (hT.here nb) (hO.here nb) (hP.here nb)).mono ?_;rintro e w2 ⟨rfl,hb2⟩;have hb3:=zag nb hb2;have k0:=(zai hb2 _ _ zb).trans c0;have k1:=(zai hb2 _ _ zb).trans c1;have kA:=kA0 hb3)|(go_at_call 48;refine same1 (zdy h2 _) ?_)|(go_at_call 50;refine same1 (zda cT h3 (hT.here hb3) (by omega)) ?_)|(go_at_call 89;refine same1 (zcl h4 _) ?_));go_ret;exact⟨zlo HC.out.symm,hb3⟩
 have h5x:decide (zeq O<=now)=true:=by rw[hAt];exact decide_eq_true h5
 clear hAt;cases h6:zfo n
 ·skip;have HC:Hid (zcy T O P leaf now n=false):=(show zcy T O P leaf now n=_ by unfold zcy;simp only[h1,h2,h3,h4,h5x,h6,Bool.true_and,Bool.and_false]);go_enter Tryz.func197,Tryz.ntmps197;go_wp2_with (first|(go_at_call 94;refine (zbi cT cO cP h1 (hT.here nb) (hO.here nb) (hP.here nb)).mono ?_;rintro e w2 ⟨rfl,hb2⟩;have hb3:=zag nb hb2;have k0:=(zai hb2 _ _ zb).trans c0;have k1:=(zai hb2 _ _ zb).trans c1;have kA:=kA0 hb3)|(go_at_call 48;refine same1 (zdy h2 _) ?_)|(go_at_call 50;refine same1 (zda cT h3 (hT.here hb3) (by omega)) ?_)|(go_at_call 89;refine same1 (zcl h4 _) ?_)|(go_at_call 71;refine same1 (zh2 h6 _) ?_));go_ret;exact⟨zlo HC.out.symm,hb3⟩
 ·skip;have HC:Hid (zcy T O P leaf now n=true):=(show zcy T O P leaf now n=_ by unfold zcy;simp only[h1,h2,h3,h4,h5x,h6,Bool.true_and]);go_enter Tryz.func197,Tryz.ntmps197;go_wp2_with (first|(go_at_call 94;refine (zbi cT cO cP h1 (hT.here nb) (hO.here nb) (hP.here nb)).mono ?_;rintro e w2 ⟨rfl,hb2⟩;have hb3:=zag nb hb2;have k0:=(zai hb2 _ _ zb).trans c0;have k1:=(zai hb2 _ _ zb).trans c1;have kA:=kA0 hb3)|(go_at_call 48;refine same1 (zdy h2 _) ?_)|(go_at_call 50;refine same1 (zda cT h3 (hT.here hb3) (by omega)) ?_)|(go_at_call 89;refine same1 (zcl h4 _) ?_)|(go_at_call 71;refine same1 (zh2 h6 _) ?_));go_ret;exact⟨zlo HC.out.symm,hb3⟩
theorem zl7{leaf now n:Int}{f:Bool}(hf:zcy T O P leaf now n=f)(hT:Qw w aT T)(hO:Qw w aO O)(hP:Qw w aP P):
 Calls Tryz.prog 197 #[zea aT T.length cT aO O.length cO aP P.length cP,.int .i64 leaf,.int .i64 now,.int .i64 n] w fun e w'=>e=.returned (.bool f)/\Bw w w':=by subst hf;exact zvp cT cO cP leaf now n hT hO hP
end
def zeh(T:List Q4)(nL:Nat)(c:Kn):Bool:=(((((((inQ 0 c.id 1000000) && inQ 0 c.lf ((T.length:Int)-1)) && zdg T c.lf) && inQ 0 c.pl ((nL:Int)-1)) && ccB c.k c.wn c.th c.fl c.ac c.la c.og c.st c.fr) && !decide (c.k=3)) && decide (c.xs.length<=100)) && c.xs.all zfo
section
variable{xs:List Int}
theorem zzq{k:Nat}(h:k<xs.length)(hf:∀j (hj:j<xs.length),j<k->zfo xs[j]=true)(e:zfo xs[k]=true):∀j (hj:j<xs.length),j<k+1->zfo xs[j]=true:=fun j hj hk=>by
 by_cases hjk:j=k
 ·subst hjk;exact e
 ·exact hf j hj (by omega)
theorem zzr(hf:∀j (hj:j<xs.length),j<xs.length->zfo xs[j]=true):xs.all zfo=true:=by rw[List.all_eq_true];intro x hx;obtain⟨i,hi,rfl⟩:=List.mem_iff_getElem.1 hx;exact hf i hi hi
theorem z1x{k:Nat}(h:k<xs.length)(e:zfo xs[k]=false):xs.all zfo=false:=by rw[List.all_eq_false];exact⟨_,List.getElem_mem h,by rw[e];simp⟩
end
theorem zef{f g:Bool}(h:f=g):Ending.returned (.bool f)=.returned (.bool g):=by rw[h]
theorem zfc{w:World}(now nx:Int){aT aO aP aL aK sa:Option Addr}{cT nO cO nP cP nL cL nK cK sc:Nat}{T:List Q4}(c:Kn)(hT:Qw w aT T)(hl:T.length<=1048576)(hL:nL<=1048576)(hs:Iw w sa c.xs)(hm:c.xs.length<=maxLen):
 Calls Tryz.prog 95 #[zcf now aT T.length cT aO nO cO aP nP cP aL nL cL aK nK cK nx,.agg #[.int .i64 c.id,.int .i64 c.lf,.int .i64 c.pl,.int .i64 c.k,.int .i64 c.wn,.int .i64 c.th,.int .i64 c.fl,.int .i64 c.ac,.int .i64 c.la,.int .i64 c.og,.int .i64 c.st,.int .i64 c.fr,.bool c.sl,.slice sa c.xs.length sc]] w fun e w'=>e=.returned (.bool (zeh T nL c))/\Bw w w':=by
 have hli:(T.length:Int)<=1048576:=by omega
 have hLi:(nL:Int)<=1048576:=by omega
 have hmi:(c.xs.length:Int)<=9223372036854775807:=by unfold maxLen at hm;omega
 obtain⟨v,hv⟩:∃v,v=(w.alloc (.cells #[.int .i64 now,.slice aT T.length cT,.slice aO nO cO,.slice aP nP cP,.slice aL nL cL,.slice aK nK cK,.int .i64 nx] 31)).alloc (.cells #[.int .i64 c.id,.int .i64 c.lf,.int .i64 c.pl,.int .i64 c.k,.int .i64 c.wn,.int .i64 c.th,.int .i64 c.fl,.int .i64 c.ac,.int .i64 c.la,.int .i64 c.og,.int .i64 c.st,.int .i64 c.fr,.bool c.sl,.slice sa c.xs.length sc] 47):=⟨_,rfl⟩;have nb:Bw w v:=by rw[hv];go_grown
 have L0:Lay v w.heap.size [.int .i64 now,.slice aT T.length cT,.slice aO nO cO,.slice aP nP cP,.slice aL nL cL,.slice aK nK cK,.int .i64 nx]:=by rw[hv];exact (zbs _ _ rfl).alloc _ _
 have L1:Lay v (w.heap.size+1) [.int .i64 c.id,.int .i64 c.lf,.int .i64 c.pl,.int .i64 c.k,.int .i64 c.wn,.int .i64 c.th,.int .i64 c.fl,.int .i64 c.ac,.int .i64 c.la,.int .i64 c.og,.int .i64 c.st,.int .i64 c.fr,.bool c.sl,.slice sa c.xs.length sc]:=by rw[hv];exact zbs _ _ (by simp)
 have r1:v.cell? ⟨w.heap.size,1,none⟩=some (.slice aT T.length cT):=L0.cell 1 _ rfl;have r4:v.cell? ⟨w.heap.size,4,none⟩=some (.slice aL nL cL):=L0.cell 4 _ rfl;obtain⟨s0,s1,s2,s3,s4,s5,s6,s7,s8,s9,s10,s11,s12,s13⟩:=L1.c14;cases h1:inQ 0 c.id 1000000
 ·have HC:Hid (zeh T nL c=false):=(show zeh T nL c=_ by unfold zeh;simp only[h1,Bool.true_and,Bool.false_and,Bool.and_false]);go_enter Tryz.func95,Tryz.ntmps95;go_upto_region 1 with (fail);rw[<-hv];clear hv;go_wp2_with (first|(go_at_call 48;refine same1 (zbz h1 _) ?_;have g1:=True.intro));go_ret;exact⟨zef HC.out.symm,nb⟩
 cases h2:inQ 0 c.lf ((T.length:Int)-1)
 ·have HC:Hid (zeh T nL c=false):=(show zeh T nL c=_ by unfold zeh;simp only[h1,h2,Bool.true_and,Bool.false_and,Bool.and_false]);go_enter Tryz.func95,Tryz.ntmps95;go_upto_region 1 with (fail);rw[<-hv];clear hv;go_wp2_with (first|(go_at_call 48;have tk:=g1;refine same1 (zbz h2 _) ?_;have g2:=True.intro)|(go_at_call 48;refine same1 (zbz h1 _) ?_;have g1:=True.intro));go_ret;exact⟨zef HC.out.symm,nb⟩
 cases h3:zdg T c.lf
 ·have HC:Hid (zeh T nL c=false):=(show zeh T nL c=_ by unfold zeh;simp only[h1,h2,h3,Bool.true_and,Bool.false_and,Bool.and_false]);go_enter Tryz.func95,Tryz.ntmps95;go_upto_region 1 with (fail);rw[<-hv];clear hv;go_wp2_with (first|(go_at_call 50;refine same1 (zda cT h3 (hT.here nb) hl) ?_)|(go_at_call 48;have tk:=g1;refine same1 (zbz h2 _) ?_;have g2:=True.intro)|(go_at_call 48;refine same1 (zbz h1 _) ?_;have g1:=True.intro));go_ret;exact⟨zef HC.out.symm,nb⟩
 cases h4:inQ 0 c.pl ((nL:Int)-1)
 ·have HC:Hid (zeh T nL c=false):=(show zeh T nL c=_ by unfold zeh;simp only[h1,h2,h3,h4,Bool.true_and,Bool.false_and,Bool.and_false]);go_enter Tryz.func95,Tryz.ntmps95;go_upto_region 1 with (fail);rw[<-hv];clear hv;go_wp2_with (first|(go_at_call 48;have tk:=g2;refine same1 (zbz h4 _) ?_)|(go_at_call 50;refine same1 (zda cT h3 (hT.here nb) hl) ?_)|(go_at_call 48;have tk:=g1;refine same1 (zbz h2 _) ?_;have g2:=True.intro)|(go_at_call 48;refine same1 (zbz h1 _) ?_;have g1:=True.intro));go_ret;exact⟨zef HC.out.symm,nb⟩
 cases h5:ccB c.k c.wn c.th c.fl c.ac c.la c.og c.st c.fr
 ·have HC:Hid (zeh T nL c=false):=(show zeh T nL c=_ by unfold zeh;simp only[h1,h2,h3,h4,h5,Bool.true_and,Bool.false_and,Bool.and_false]);go_enter Tryz.func95,Tryz.ntmps95;go_upto_region 1 with (fail);rw[<-hv];clear hv;go_wp2_with (first|(go_at_call 135;go_loud (refine (zaz h5 _ _).mono ?_;rintro e w3 ⟨rfl,e3⟩;have b3:Bw v w3:=(by rw[e3];exact zad _ _);clear e3;have bx:=zaa nb b3;have M1:=L1.next b3;have m3:w3.cell? ⟨w.heap.size+1,3,none⟩=some (.int .i64 c.k):=M1.cell 3 _ rfl;have m13:w3.cell? ⟨w.heap.size+1,13,none⟩=some (.slice sa c.xs.length sc):=M1.cell 13 _ rfl))|(go_at_call 48;have tk:=g2;refine same1 (zbz h4 _) ?_)|(go_at_call 50;refine same1 (zda cT h3 (hT.here nb) hl) ?_)|(go_at_call 48;have tk:=g1;refine same1 (zbz h2 _) ?_;have g2:=True.intro)|(go_at_call 48;refine same1 (zbz h1 _) ?_;have g1:=True.intro));go_ret;exact⟨zef HC.out.symm,bx⟩
 by_cases hk:c.k=3
 ·have HC:Hid (zeh T nL c=false):=(show zeh T nL c=_ by unfold zeh;simp only[h1,h2,h3,h4,h5,decide_eq_true hk,Bool.not_true,Bool.true_and,Bool.false_and,Bool.and_false]);have hk':(c.k == 3)=true:=(by simp[hk]);clear hk;go_enter Tryz.func95,Tryz.ntmps95;go_upto_region 1 with (fail);rw[<-hv];clear hv;go_wp2_with (first|(go_at_call 135;go_loud (refine (zaz h5 _ _).mono ?_;rintro e w3 ⟨rfl,e3⟩;have b3:Bw v w3:=(by rw[e3];exact zad _ _);clear e3;have bx:=zaa nb b3;have M1:=L1.next b3;have m3:w3.cell? ⟨w.heap.size+1,3,none⟩=some (.int .i64 c.k):=M1.cell 3 _ rfl;have m13:w3.cell? ⟨w.heap.size+1,13,none⟩=some (.slice sa c.xs.length sc):=M1.cell 13 _ rfl))|(go_at_call 48;have tk:=g2;refine same1 (zbz h4 _) ?_)|(go_at_call 50;refine same1 (zda cT h3 (hT.here nb) hl) ?_)|(go_at_call 48;have tk:=g1;refine same1 (zbz h2 _) ?_;have g2:=True.intro)|(go_at_call 48;refine same1 (zbz h1 _) ?_;have g1:=True.intro));go_ret;exact⟨zef HC.out.symm,bx⟩
 by_cases hq:(c.xs.length:Int)<=100;rotate_left
 ·have HC:Hid (zeh T nL c=false):=(show zeh T nL c=_ by unfold zeh;simp only[h1,h2,h3,h4,h5,decide_eq_false hk,Bool.not_false,decide_eq_false (show ¬c.xs.length<=100 by omega),Bool.true_and,Bool.false_and,Bool.and_false]);have hq':¬((c.xs.length:Int)<=100):=hq;go_enter Tryz.func95,Tryz.ntmps95;go_upto_region 1 with (fail);rw[<-hv];clear hv;go_wp2_with (first|(go_at_call 135;go_loud (refine (zaz h5 _ _).mono ?_;rintro e w3 ⟨rfl,e3⟩;have b3:Bw v w3:=(by rw[e3];exact zad _ _);clear e3;have bx:=zaa nb b3;have M1:=L1.next b3;have m3:w3.cell? ⟨w.heap.size+1,3,none⟩=some (.int .i64 c.k):=M1.cell 3 _ rfl;have m13:w3.cell? ⟨w.heap.size+1,13,none⟩=some (.slice sa c.xs.length sc):=M1.cell 13 _ rfl))|(go_at_call 48;have tk:=g2;refine same1 (zbz h4 _) ?_)|(go_at_call 50;refine same1 (zda cT h3 (hT.here nb) hl) ?_)|(go_at_call 48;have tk:=g1;refine same1 (zbz h2 _) ?_;have g2:=True.intro)|(go_at_call 48;refine same1 (zbz h1 _) ?_;have g1:=True.intro));go_ret;exact⟨zef HC.out.symm,bx⟩
 have HC:Hid (zeh T nL c=c.xs.all zfo):=(show zeh T nL c=_ by unfold zeh;simp only[h1,h2,h3,h4,h5,decide_eq_false hk,Bool.not_false,decide_eq_true (show c.xs.length<=100 by omega),Bool.true_and]);have hk':(c.k == 3)=false:=by simp[hk]
 clear hk;go_enter Tryz.func95,Tryz.ntmps95;go_upto_region 1 with (fail);rw[<-hv];clear hv;go_wp2_with (first|(go_at_call 135;go_loud (refine (zaz h5 _ _).mono ?_;rintro e w3 ⟨rfl,e3⟩;have b3:Bw v w3:=(by rw[e3];exact zad _ _);clear e3;have bx:=zaa nb b3;have M1:=L1.next b3;have m3:w3.cell? ⟨w.heap.size+1,3,none⟩=some (.int .i64 c.k):=M1.cell 3 _ rfl;have m13:w3.cell? ⟨w.heap.size+1,13,none⟩=some (.slice sa c.xs.length sc):=M1.cell 13 _ rfl))|(go_at_call 48;have tk:=g2;refine same1 (zbz h4 _) ?_)|(go_at_call 50;refine same1 (zda cT h3 (hT.here nb) hl) ?_)|(go_at_call 48;have tk:=g1;refine same1 (zbz h2 _) ?_;have g2:=True.intro)|(go_at_call 48;refine same1 (zbz h1 _) ?_;have g1:=True.intro));go_loop [5] (fun i=>∃k:Nat,i=.int .i64 k/\k<=c.xs.length/\∀j (hj:j<c.xs.length),j<k->zfo c.xs[j]=true) (fun i=>c.xs.length-(intOf i).toNat);case atStart=>exact⟨0,rfl,by omega,fun j hj hk=>by omega⟩
 case round =>
  obtain⟨k,rfl,hk9,hf⟩:=hrel;have HF:Hid (∀j (hj:j<c.xs.length),j<k->zfo c.xs[j]=true):=hf;clear hf;by_cases hlt:k<c.xs.length
  ·obtain⟨b,off,e,hbl,d0⟩:=hs.at bx k hlt;subst e;have hlt':(k:Int)<(c.xs.length:Int):=(by omega);obtain⟨x,hx⟩:∃x,c.xs[k]=x:=⟨_,rfl⟩;have HX:Hid (c.xs[k]=x):=hx;rw[hx]at d0;clear hx;cases h8:zfo x
   ·have HN:Hid (c.xs.all zfo=false):=z1x hlt (by rw[HX.out];exact h8);go_wp2_with (first|(go_at_call 71;refine same1 (zh2 h8 _) ?_));go_ret;exact⟨zef (HC.out.trans HN.out).symm,bx⟩
   ·have HS:Hid (∀j (hj:j<c.xs.length),j<k+1->zfo c.xs[j]=true):=zzq hlt HF.out (by rw[HX.out];exact h8);go_wp2_with (first|(go_at_call 71;refine same1 (zh2 h8 _) ?_));go_round;case rel=>exact⟨k+1,by go_num,by omega,HS.out⟩
    case measure=>simp[intOf]<;>omega
  ·have e:k=c.xs.length:=(by omega);subst e;have HN:Hid (c.xs.all zfo=true):=zzr HF.out;go_wp2;go_ret;exact⟨zef (HC.out.trans HN.out).symm,bx⟩
def atP(K:List Kn)(p:Int):List Kn:=K.filter (fun c=>decide (c.pl=p))
def zf8(K:List Kn):List Int:=K.map Kn.id
def flK:List Kn->Int
 | []=>0| c :: r=>c.fl+flK r
theorem zhf(a b:List Kn):flK (a ++ b)=flK a+flK b:=by
 induction a with
 | nil=>simp[flK]| cons c r ih=>simp only[List.cons_append,flK,ih];omega
theorem zgi(a b:List Kn):zf8 (a ++ b)=zf8 a ++ zf8 b:=List.map_append
theorem zbt(a:List Kn):(zf8 a).length=a.length:=List.length_map ..
theorem zl8{a:List Kn}{i:Nat}(h:i<a.length)(h':i<(zf8 a).length):(zf8 a)[i]=a[i].id:=List.getElem_map ..
theorem zfx(a b:List Kn)(p:Int):atP (a ++ b) p=atP a p ++ atP b p:=List.filter_append ..
theorem zuh(K:List Kn)(p:Int):(atP K p).length<=K.length:=List.length_filter_le ..
theorem zdr{α:Type}(K:List α){k:Nat}(h:k<K.length):K.take (k+1)=K.take k ++ [K[k]]:=by rw[List.take_append_getElem h]
theorem z1y{K:List Kn}{k:Nat}(h:k<K.length){p:Int}(e:K[k].pl=p):atP (K.take (k+1)) p=atP (K.take k) p ++ [K[k]]:=by rw[zdr K h,zfx];congr 1;simp[atP,e]
theorem atP_no{K:List Kn}{k:Nat}(h:k<K.length){p:Int}(e:¬K[k].pl=p):atP (K.take (k+1)) p=atP (K.take k) p:=by rw[zdr K h,zfx];simp[atP,e]
structure EgOk (now nx:Int) (T O P:List Q4) (L:List F8) (K:List Kn):Prop where
 lend:zbp T O P=true
 at':zeq O=now
 nx':inQ 0 nx 1000001=true
 l0:1<=L.length
 l1:L.length<=10
 k1:K.length<=40
 con:∀i (h:i<K.length),zeh T L.length K[i]=true
 rise:∀i (h:i<K.length) (h':i+1<K.length),K[i].id<K[i+1].id
 pl:∀p (h:p<L.length),plB L[p].1 L[p].2.1 L[p].2.2=true/\L[p].2.1=flK (atP K p)/\L[p].2.2=zf8 (atP K p)
open Classical in
noncomputable def zck(now nx:Int)(T O P:List Q4)(L:List F8)(K:List Kn):Bool:=decide (EgOk now nx T O P L K)
section
variable {now nx:Int} {T O P:List Q4} {L:List F8} {K:List Kn}
open Classical in
theorem zax(h:zck now nx T O P L K=true):EgOk now nx T O P L K:=by unfold zck at h;exact of_decide_eq_true h
open Classical in
theorem zgj(h:EgOk now nx T O P L K):zck now nx T O P L K=true:=by unfold zck;exact decide_eq_true h
open Classical in
theorem zb5(h:¬EgOk now nx T O P L K):zck now nx T O P L K=false:=by unfold zck;exact decide_eq_false h
end
theorem zzs{c:Kn}{T:List Q4}{n:Nat}(h:zeh T n c=true):0<=c.fl/\c.fl<=1000000000:=by unfold zeh at h;simp only[bae]at h;have h5:=h.1.1.1.2;exact (zbq h5).2.2.2.1
theorem zgk{O:List Q4}(h:0<O.length):zeq O=O[0].2.2.2:=by unfold zeq;rw[List.getElem?_eq_getElem h]
theorem za8{w w':World}(h:Below w.drew.heap.size w.drew w'):Bw w w':=(brf _ _).drew.trans h
theorem zxp(xs:List Q4):∀(i:Nat) (q:Q4),((((za5 xs).set (i*4) (.int .i64 q.1)).set (i*4+1) (.int .i64 q.2.1)).set (i*4+2) (.int .i64 q.2.2.1)).set (i*4+3) (.int .i64 q.2.2.2)=za5 (xs.set i q):=by
 induction xs with
 | nil=>intro i q;rfl
 | cons x xs ih =>
  intro i q;have e:za5 (x :: xs)=Value.int .i64 x.1 :: Value.int .i64 x.2.1 :: Value.int .i64 x.2.2.1 :: Value.int .i64 x.2.2.2 :: za5 xs:=rfl;cases i with
  | zero=>rfl| succ i =>rw[e];have a0:(i+1)*4=i*4+1+1+1+1:=(by omega);have a1:i*4+1+1+1+1+1=i*4+1+1+1+1+1:=rfl;rw[a0];show Value.int .i64 x.1 :: Value.int .i64 x.2.1 :: Value.int .i64 x.2.2.1 :: Value.int .i64 x.2.2.2 :: ((((za5 xs).set (i*4) (.int .i64 q.1)).set (i*4+1) (.int .i64 q.2.1)).set (i*4+2) (.int .i64 q.2.2.1)).set (i*4+3) (.int .i64 q.2.2.2)=za5 (x :: xs.set i q);rw[ih i q];rfl
theorem zui{w:World}{base g n cap:Nat}{t:TypeId}{xs:List Q4}(h:w.ownsRow base t 4 (.slice (some ⟨g,0,none⟩) n cap) n (za5 xs))(i:Nat)(q:Q4):(zzg w g (i*4) q).ownsRow base t 4 (.slice (some ⟨g,0,none⟩) n cap) n (za5 (xs.set i q)):=by rw[<-zxp];exact ((((h.stored (i*4) _).1.stored (i*4+1) _).1.stored (i*4+2) _).1.stored (i*4+3) _).1
theorem zn2(w:World)(g o:Nat)(q:Q4):w.grownBy (zzg w g o q) (some g):=by have h:=zp1 (x:=q) (o:=o) (Only.refl g w);exact⟨h.os,h.tape,h.output,h.size,fun k hk hn=>h.block k hk (fun e=>hn (by rw[e]))⟩
structure FlSt (w W:World) (b2:Nat) (sT sO sP:Value) (gT cT gO cO gP cP:Nat) (T X Y:List Q4):Prop where
 kept:Kept w [(w.heap.size,0,sT),(w.heap.size,1,sO),(w.heap.size,2,sP),(w.heap.size+1,0,.slice none 0 0),(w.heap.size+1,1,.slice none 0 0),(w.heap.size+1,2,.slice none 0 0),(b2,0,.slice (some ⟨gT,0,none⟩) T.length cT),(b2,1,.slice (some ⟨gO,0,none⟩) X.length cO),(b2,2,.slice (some ⟨gP,0,none⟩) Y.length cP)] [w.heap.size+1] W
 rT:W.ownsRow (w.heap.size+2) 110 4 (.slice (some ⟨gT,0,none⟩) T.length cT) T.length (za5 T)
 rO:W.ownsRow (w.heap.size+2) 53 4 (.slice (some ⟨gO,0,none⟩) X.length cO) X.length (za5 X)
 rP:W.ownsRow (w.heap.size+2) 53 4 (.slice (some ⟨gP,0,none⟩) Y.length cP) Y.length (za5 Y)
 ap:gO≠gP
 lo:w.heap.size+2<=b2
 nO:gO<b2
 nP:gP<b2
 nT:gT<b2
section
variable {w W:World} {b2:Nat} {sT sO sP:Value} {gT cT gO cO gP cP:Nat} {T X Y:List Q4}
theorem FlSt.next(d:FlSt w W b2 sT sO sP gT cT gO cO gP cP T X Y){W':World}(h:Bw W W'):FlSt w W' b2 sT sO sP gT cT gO cO gP cP T X Y :=
 ⟨d.kept.next h,zbd d.rT h,zbd d.rO h,zbd d.rP h,d.ap,d.lo,d.nO,d.nP,d.nT⟩
theorem FlSt.low(d:FlSt w W b2 sT sO sP gT cT gO cO gP cP T X Y):w.heap.size+2<=gO/\w.heap.size+2<=gP/\w.heap.size+2<=gT:=⟨(d.rO.lt gO rfl).1,(d.rP.lt gP rfl).1,(d.rT.lt gT rfl).1⟩
theorem FlSt.keeps(d:FlSt w W b2 sT sO sP gT cT gO cO gP cP T X Y){W':World}{g:Nat}(hg:W.grownBy W' (some g))(h1:w.heap.size+2<=g)(h2:g≠b2){cs:List (Nat × Nat × Value)}{bs:List Nat}(k:Kept w cs bs W)(hc:∀c ∈ cs,c.1<=w.heap.size+1\/c.1=b2)(hb:∀b ∈ bs,b<=w.heap.size+1):Kept w cs bs W':=by
 refine k.onlyO (OnlyO.of_grown hg) (fun j e=>by have e1:g=j:=osi e;omega) (fun c hc' e=>?_) (fun b hb' e=>?_)
 ·have e1:g=c.1:=osi e;rcases hc c hc' with h|h<;>omega
 ·have e1:g=b:=osi e;have:=hb b hb';omega
theorem FlSt.cellsOk:∀c ∈ [(w.heap.size,0,sT),(w.heap.size,1,sO),(w.heap.size,2,sP),(w.heap.size+1,0,Value.slice none 0 0),(w.heap.size+1,1,.slice none 0 0),(w.heap.size+1,2,.slice none 0 0),(b2,0,.slice (some ⟨gT,0,none⟩) T.length cT),(b2,1,.slice (some ⟨gO,0,none⟩) X.length cO),(b2,2,.slice (some ⟨gP,0,none⟩) Y.length cP)],c.1<=w.heap.size+1\/c.1=b2:=by intro c hc;simp only[List.mem_cons,List.not_mem_nil,or_false]at hc;rcases hc with rfl|rfl|rfl|rfl|rfl|rfl|rfl|rfl|rfl;all_goals first|exact .inr rfl|exact .inl (by simp)
theorem FlSt.putO(d:FlSt w W b2 sT sO sP gT cT gO cO gP cP T X Y)(i:Nat)(q:Q4):FlSt w (zzg W gO (i*4) q) b2 sT sO sP gT cT gO cO gP cP T (X.set i q) Y:=by
 have hl:=d.low;have hg:=zn2 W gO (i*4) q;have hne:=d.nO;have k:=d.keeps hg hl.1 (by omega) d.kept FlSt.cellsOk (fun b hb=>by simp only[List.mem_cons,List.not_mem_nil,or_false]at hb;omega);have ro:=zui d.rO i q;refine⟨?_,d.rT.kept hg (zb7 d.rT d.rO (by decide)),?_,d.rP.kept hg (.inr (fun e=>d.ap (osi e).symm)),d.ap,d.lo,d.nO,d.nP,d.nT⟩
 ·rw[List.length_set];exact k
 ·rw[List.length_set];exact ro
theorem FlSt.putP(d:FlSt w W b2 sT sO sP gT cT gO cO gP cP T X Y)(i:Nat)(q:Q4):FlSt w (zzg W gP (i*4) q) b2 sT sO sP gT cT gO cO gP cP T X (Y.set i q):=by
 have hl:=d.low;have hg:=zn2 W gP (i*4) q;have hne:=d.nP;have k:=d.keeps hg hl.2.1 (by omega) d.kept FlSt.cellsOk (fun b hb=>by simp only[List.mem_cons,List.not_mem_nil,or_false]at hb;omega);have rp:=zui d.rP i q;refine⟨?_,d.rT.kept hg (zb7 d.rT d.rP (by decide)),d.rO.kept hg (.inr (fun e=>d.ap (osi e))),?_,d.ap,d.lo,d.nO,d.nP,d.nT⟩
 ·rw[List.length_set];exact k
 ·rw[List.length_set];exact rp
theorem z0z{t:TypeId}{base g n cap i:Nat}{X:List Q4}(h:W.ownsRow base t 4 (.slice (some ⟨g,0,none⟩) n cap) n (za5 X))(hi:i<X.length)(hn:n=X.length):
 (W.cell? ⟨g,i*4,none⟩=some (.int .i64 X[i].1)/\W.cell? ⟨g,i*4+1,none⟩=some (.int .i64 X[i].2.1)/\W.cell? ⟨g,i*4+2,none⟩=some (.int .i64 X[i].2.2.1)/\W.cell? ⟨g,i*4+3,none⟩=some (.int .i64 X[i].2.2.2))/\∀j,W.frozen? ⟨g,j,none⟩=false:=by
 obtain⟨f0,f1,f2,f3⟩:=zia X i hi;exact⟨⟨(h.cellAt _ (by omega)).trans f0,(h.cellAt _ (by omega)).trans f1,(h.cellAt _ (by omega)).trans f2,(h.cellAt _ (by omega)).trans f3⟩,fun j=>h.frozenAt j⟩
end
def zuj(now:Int)(O:List Q4)(k:Nat):List Q4:=(za1 now O).take k ++ O.drop k
section
variable(now:Int)(O:List Q4)
theorem zel(k:Nat)(h:k<=O.length):(zuj now O k).length=O.length:=by unfold zuj;rw[List.length_append,List.length_take,List.length_drop,zaw];omega
theorem zfd:zuj now O 0=O:=by simp[zuj]
theorem zfy:zuj now O O.length=za1 now O:=by unfold zuj;rw[List.drop_length,List.append_nil,<-zaw now O,List.take_length]
end
theorem zfz{now:Int}{O:List Q4}{k:Nat}(h:k<O.length):(zuj now O k).set k (zjc now O[k])=zuj now O (k+1):=by
 have hf:k<(za1 now O).length:=by rw[zaw];exact h
 unfold zuj;rw[List.drop_eq_getElem_cons h,List.take_succ_eq_append_getElem hf,zgh h hf,List.append_assoc,List.set_append_right _ _ (by rw[List.length_take];omega)];congr 1;rw[List.length_take,Nat.min_eq_left (Nat.le_of_lt hf),Nat.sub_self];rfl
structure NlSt (w W:World) (b2:Nat) (vT vO vP:Value) (T X Y:List Q4):Prop where
 kept:Kept w [(w.heap.size,0,.slice none 0 0),(w.heap.size,1,.slice none 0 0),(w.heap.size,2,.slice none 0 0),(b2,0,vT),(b2,1,vO),(b2,2,vP)] [w.heap.size,b2] W
 rT:W.ownsRow (w.heap.size+1) 110 4 vT T.length (za5 T)
 rO:W.ownsRow (w.heap.size+1) 53 4 vO X.length (za5 X)
 rP:W.ownsRow (w.heap.size+1) 53 4 vP Y.length (za5 Y)
 ap:∀g,vO.ownBlock=some g->vP.ownBlock≠some g
 lo:w.heap.size+1<=b2
 sz:b2<W.heap.size
 nT:vT.ownBlock≠some b2
 nO:vO.ownBlock≠some b2
 nP:vP.ownBlock≠some b2
section
variable {w W:World} {b2:Nat} {vT vO vP:Value} {T X Y:List Q4}
theorem NlSt.next(d:NlSt w W b2 vT vO vP T X Y){W':World}(h:Bw W W'):NlSt w W' b2 vT vO vP T X Y :=
 ⟨d.kept.next h,zbd d.rT h,zbd d.rO h,zbd d.rP h,d.ap,d.lo,nlt d.sz h.size,d.nT,d.nO,d.nP⟩
theorem NlSt.mem{c:Nat × Nat × Value}(hc:c ∈ [(w.heap.size,0,Value.slice none 0 0),(w.heap.size,1,.slice none 0 0),(w.heap.size,2,.slice none 0 0),(b2,0,vT),(b2,1,vO),(b2,2,vP)]):c.1=w.heap.size\/c.1=b2:=by simp only[List.mem_cons,List.not_mem_nil,or_false]at hc;rcases hc with rfl|rfl|rfl|rfl|rfl|rfl;all_goals first|exact .inl rfl|exact .inr rfl
theorem NlSt.keeps(d:NlSt w W b2 vT vO vP T X Y){W':World}{row:Option Nat}(hg:W.grownBy W' row)(h1:∀g,row=some g->w.heap.size+1<=g)(h2:row≠some b2):Kept w [(w.heap.size,0,.slice none 0 0),(w.heap.size,1,.slice none 0 0),(w.heap.size,2,.slice none 0 0),(b2,0,vT),(b2,1,vO),(b2,2,vP)] [w.heap.size,b2] W':=by
 refine d.kept.onlyO (OnlyO.of_grown hg) (fun j e=>by have:=h1 j e;omega) (fun c hc e=>?_) (fun b hb e=>?_)
 ·rcases NlSt.mem hc with k|k
  ·rw[k]at e;have:=h1 _ e;omega
  ·rw[k]at e;exact h2 e
 ·simp only[List.mem_cons,List.not_mem_nil,or_false]at hb;rcases hb with rfl|rfl
  ·have:=h1 _ e;omega
  ·exact h2 e
theorem zij{base b i:Nat}{v u:Value}{t:TypeId}{n:Nat}{xs:List Value}(h:W.ownsRow base t 4 v n xs)(hn:v.ownBlock≠some b):(W.setCell ⟨b,i,none⟩ u).ownsRow base t 4 v n xs:=by
 refine h.kept (row:=some b) ⟨rfl,rfl,rfl,by simp,fun k _ hk=>Below.heap_setCell _ _ _ _ (fun e=>hk (by simp[e]))⟩ ?_;cases ho:v.ownBlock with
 | none=>exact .inl rfl| some g=>exact .inr (fun e=>hn (by rw[ho,e]))
theorem NlSt.appO(d:NlSt w W b2 vT vO vP T X Y){W':World}{v':Value}{x:Q4}(hg:W.grownBy W' vO.ownBlock)(ho:W'.ownsRow (w.heap.size+1) 53 4 v' (X.length+1) (za5 X ++ za5 [x]))(hb:v'.ownBlock=vO.ownBlock\/v'.ownBlock=some W.heap.size):
 NlSt w (W'.setCell ⟨b2,1,none⟩ v') b2 vT v' vP T (X ++ [x]) Y:=by
 have hsz:=d.sz;have k:=d.keeps hg (fun g e=>(d.rO.lt g e).1) d.nO;have hn':v'.ownBlock≠some b2:=fun e=>by
  rcases hb with h|h
  ·exact d.nO (h ▸ e)
  ·rw[h]at e;have:=osi e;omega
 have hr:W'.ownsRow (w.heap.size+1) 53 4 v' (X ++ [x]).length (za5 (X ++ [x])):=by rw[zgw,List.length_append];exact ho
 have rT:=d.rT.kept hg (zb7 d.rT d.rO (by decide));have rP:=d.rP.kept hg (by
  cases h:vP.ownBlock with
  | none=>exact .inl rfl| some g=>exact .inr (fun e=>d.ap g e.symm h))
 have hlo:=d.lo;refine⟨(k.put b2 1 v' (by omega)).to (by simp[zwu]<;>omega),zij rT d.nT,zij hr hn',zij rP d.nP,fun g e h=>?_,hlo,by have:=hg.size;simp;omega,d.nT,hn',d.nP⟩;rcases hb with q|q
 ·rw[q]at e;exact d.ap g e h
 ·rw[q]at e;have e1:=osi e;have:=(d.rP.lt g h).2;omega
theorem NlSt.appP(d:NlSt w W b2 vT vO vP T X Y){W':World}{v':Value}{x:Q4}(hg:W.grownBy W' vP.ownBlock)(ho:W'.ownsRow (w.heap.size+1) 53 4 v' (Y.length+1) (za5 Y ++ za5 [x]))(hb:v'.ownBlock=vP.ownBlock\/v'.ownBlock=some W.heap.size):
 NlSt w (W'.setCell ⟨b2,2,none⟩ v') b2 vT vO v' T X (Y ++ [x]):=by
 have hsz:=d.sz;have k:=d.keeps hg (fun g e=>(d.rP.lt g e).1) d.nP;have hn':v'.ownBlock≠some b2:=fun e=>by
  rcases hb with h|h
  ·exact d.nP (h ▸ e)
  ·rw[h]at e;have:=osi e;omega
 have hr:W'.ownsRow (w.heap.size+1) 53 4 v' (Y ++ [x]).length (za5 (Y ++ [x])):=by rw[zgw,List.length_append];exact ho
 have rT:=d.rT.kept hg (zb7 d.rT d.rP (by decide));have rO:=d.rO.kept hg (by
  cases h:vO.ownBlock with
  | none=>exact .inl rfl| some g=>exact .inr (fun e=>d.ap g h e.symm))
 have hlo:=d.lo;refine⟨(k.put b2 2 v' (by omega)).to (by simp[zwu]<;>omega),zij rT d.nT,zij rO d.nO,zij hr hn',fun g e h=>?_,hlo,by have:=hg.size;simp;omega,d.nT,d.nO,hn'⟩;rcases hb with q|q
 ·rw[q]at h;exact d.ap g e h
 ·rw[q]at h;have e1:=osi h;have:=(d.rO.lt g e).2;omega
theorem NlSt.side(d:NlSt w W b2 vT vO vP T X Y)(c i:Nat)(v:Value)(h1:w.heap.size+1<=c)(h2:c≠b2)(hT:vT.ownBlock≠some c)(hO:vO.ownBlock≠some c)(hP:vP.ownBlock≠some c):NlSt w (W.setCell ⟨c,i,none⟩ v) b2 vT vO vP T X Y:=by have hg:=zez W c i v;have k:=d.keeps hg (fun g e=>by have e1:c=g:=osi e;omega) (fun e=>h2 (osi e));exact⟨k,zij d.rT hT,zij d.rO hO,zij d.rP hP,d.ap,d.lo,by simpa using d.sz,d.nT,d.nO,d.nP⟩
def A8(w:World)(b2:Nat)(vT vO vP:Value)(T X Y:List Q4)(q:Q4)(lo:Nat)(s f:Value)(wd:World):Prop:=∃b8 fl,s=.pointer (some ⟨b8,0,none⟩)/\f=.bool fl/\NlSt w wd b2 vT vO vP T X Y/\Cells wd [(b8,0,.int .i64 q.1),(b8,1,.int .i64 q.2.1),(b8,2,.int .i64 q.2.2.1),(b8,3,.int .i64 q.2.2.2)]/\lo<=b8
theorem zuk(d:NlSt w W b2 vT vO vP T X Y){lo:Nat}(hl:lo<=W.heap.size)(q:Q4)(fl:Bool):A8 w b2 vT vO vP T X Y q lo (.pointer (some ⟨W.heap.size,0,none⟩)) (.bool fl) (W.alloc (.cells #[.int .i64 q.1,.int .i64 q.2.1,.int .i64 q.2.2.1,.int .i64 q.2.2.2] 53)) :=
 ⟨_,fl,rfl,rfl,d.next (zad _ _),⟨⟨by simp,by go_simp⟩,⟨by simp,by go_simp⟩,⟨by simp,by go_simp⟩,⟨by simp,by go_simp⟩,trivial⟩,hl⟩
theorem z02(d:NlSt w W b2 vT vO vP T X Y){lo c:Nat}(hl:lo<=c)(q:Q4)(fl:Bool){u0 u1 u2 u3:Value}(h0:W.cell? ⟨c,0,none⟩=some u0)(h1:W.cell? ⟨c,1,none⟩=some u1)(h2:W.cell? ⟨c,2,none⟩=some u2)(h3:W.cell? ⟨c,3,none⟩=some u3)(k1:w.heap.size+1<=c)(k2:c≠b2)(hT:vT.ownBlock≠some c)(hO:vO.ownBlock≠some c)(hP:vP.ownBlock≠some c):
 A8 w b2 vT vO vP T X Y q lo (.pointer (some ⟨c,0,none⟩)) (.bool fl) ((((W.setCell ⟨c,0,none⟩ (.int .i64 q.1)).setCell ⟨c,1,none⟩ (.int .i64 q.2.1)).setCell ⟨c,2,none⟩ (.int .i64 q.2.2.1)).setCell ⟨c,3,none⟩ (.int .i64 q.2.2.2)):=by
 have hs:c<W.heap.size:=World.block_lt_of_cell? W _ h0;have hp:=zw3 (w:=W) (g:=c) (o:=0) q h0 h1 h2 h3;exact⟨c,fl,rfl,rfl,(((d.side c 0 _ k1 k2 hT hO hP).side c 1 _ k1 k2 hT hO hP).side c 2 _ k1 k2 hT hO hP).side c 3 _ k1 k2 hT hO hP,⟨⟨by simpa using hs,hp.1⟩,⟨by simpa using hs,hp.2.1⟩,⟨by simpa using hs,hp.2.2.1⟩,⟨by simpa using hs,hp.2.2.2⟩,trivial⟩,hl⟩
end
def zh3(w:World)(T O P:List Q4)(f:Bool)(e:Ending)(w':World):Prop:=∃a1 n1 c1 a2 n2 c2 a3 n3 c3,e=.returned (.tuple #[zea a1 n1 c1 a2 n2 c2 a3 n3 c3,.bool f])/\LV w' w.heap.size (.slice a1 n1 c1) (.slice a2 n2 c2) (.slice a3 n3 c3) T O P/\Bw w w'
theorem zxq{r u t:Int}(h1:zdf r=true)(h2:zpo u=true)(h3:zba t=true)(w:World):Calls Tryz.prog 193 #[.int .i64 r,.int .i64 u,.int .i64 t] w fun e w'=>e=.returned (.tuple #[.agg #[.int .i64 r,.int .i64 u,.int .i64 (1000000000*u),.int .i64 t],.bool true])/\Bw w w':=by
 have hk:zj1 r u t=true:=by unfold zj1;rw[h1,h2,h3];rfl
 have h:=zp5 r u t w;unfold zp4 at h;rw[hk,if_pos rfl]at h;exact h
theorem znd{w:World}{aT:Option Addr}(cT:Nat){T:List Q4}(at':Int)(hT:Qw w aT T)(hn:zbe T at'=false):
 Calls Tryz.prog 171 #[.slice aT T.length cT,.int .i64 at'] w (zh3 w [] [] [] false):=by
 have nb:Bw w (w.alloc (.cells #[.slice none 0 0,.slice none 0 0,.slice none 0 0] 27)):=zad _ _;have KW:Hid (Kept w [(w.heap.size,0,.slice none 0 0),(w.heap.size,1,.slice none 0 0),(w.heap.size,2,.slice none 0 0)] [w.heap.size] (w.alloc (.cells #[.slice none 0 0,.slice none 0 0,.slice none 0 0] 27))) :=
  ⟨⟨⟨by simp,by go_simp⟩,⟨by simp,by go_simp⟩,⟨by simp,by go_simp⟩,trivial⟩,(fun b hb=>by simp only[List.mem_cons,List.not_mem_nil,or_false]at hb;subst hb;exact⟨by simp,fun o=>by go_simp⟩),nb⟩
 by_cases hc:zal T=0
 ·have ht:zba at'=false:=(by unfold zbe at hn;rw[decide_eq_true hc,Bool.true_and]at hn;exact hn);go_enter Tryz.func171,Tryz.ntmps171;go_wp2_with (first| (go_at_call 93;refine (ze4 cT hc (hT.here nb)).mono ?_;rintro e w2 ⟨rfl,hb2⟩;have K2:Hid (Kept w _ [w.heap.size] w2):=KW.out.next hb2;have ⟨⟨_,q0⟩,⟨_,q1⟩,⟨_,q2⟩,_⟩:=K2.out.cells;have fr:=(K2.out.free _ (List.mem_singleton.2 rfl)).2)| (go_at_call 89;refine same1 (zcl ht _) ?_));refine bodyPost_ret (zah rfl _ _ _ [.slice none 0 0,.slice none 0 0,.slice none 0 0] rfl (zeb (u0:=.slice none 0 0) (u1:=.slice none 0 0) (u2:=.slice none 0 0) _ _ _ q0 q1 q2) Tryz.underlying27 rfl (by kernel_rfl)) rfl ?_;exact⟨_,_,_,_,_,_,_,_,_,rfl,LV.zero _ _,((K2.out.hb.setCell (nrf _) _).setCell (nrf _) _).setCell (nrf _) _⟩
 ·have hc':(zal T == 0)=false:=(by simp[hc]);go_enter Tryz.func171,Tryz.ntmps171;go_wp2_with (first| (go_at_call 93;refine (zdi cT (hT.here nb)).mono ?_;rintro e w2 ⟨rfl,hb2⟩;have K2:Hid (Kept w _ [w.heap.size] w2):=KW.out.next hb2;have ⟨⟨_,q0⟩,⟨_,q1⟩,⟨_,q2⟩,_⟩:=K2.out.cells;have fr:=(K2.out.free _ (List.mem_singleton.2 rfl)).2));refine bodyPost_ret (zah rfl _ _ _ [.slice none 0 0,.slice none 0 0,.slice none 0 0] rfl (zeb (u0:=.slice none 0 0) (u1:=.slice none 0 0) (u2:=.slice none 0 0) _ _ _ q0 q1 q2) Tryz.underlying27 rfl (by kernel_rfl)) rfl ?_;exact⟨_,_,_,_,_,_,_,_,_,rfl,LV.zero _ _,((K2.out.hb.setCell (nrf _) _).setCell (nrf _) _).setCell (nrf _) _⟩
theorem nl_fin{w W:World}{b2:Nat}{aV aX aY:Option Addr}{nV cV nX cX nY cY:Nat}{T X Y:List Q4}(d:NlSt w W b2 (.slice aV nV cV) (.slice aX nX cX) (.slice aY nY cY) T X Y){a b c:Value}:
 LV (((W.setCell ⟨w.heap.size,0,none⟩ a).setCell ⟨w.heap.size,1,none⟩ b).setCell ⟨w.heap.size,2,none⟩ c) w.heap.size (.slice aV nV cV) (.slice aX nX cX) (.slice aY nY cY) T X Y/\Bw w (((W.setCell ⟨w.heap.size,0,none⟩ a).setCell ⟨w.heap.size,1,none⟩ b).setCell ⟨w.heap.size,2,none⟩ c):=by
 refine⟨⟨zek (zch (za7 (za7 (za7 d.rT (by omega)) (by omega)) (by omega)) (by omega)),zek (zch (za7 (za7 (za7 d.rO (by omega)) (by omega)) (by omega)) (by omega)),zek (zch (za7 (za7 (za7 d.rP (by omega)) (by omega)) (by omega)) (by omega)),?_,?_,?_⟩,((d.kept.hb.setCell (nrf _) _).setCell (nrf _) _).setCell (nrf _) _⟩
 ·exact fun g h1 h2=>zbv d.rT d.rO (by decide) g (za6 h1) (za6 h2)
 ·exact fun g h1 h2=>zbv d.rT d.rP (by decide) g (za6 h1) (za6 h2)
 ·exact fun g h1 h2=>d.ap g (za6 h1) (za6 h2)
theorem zn3{w:World}{g:Nat}{u0 u1 u2 u3:Value}(h0:w.cell? ⟨g,0,none⟩=some u0)(h1:w.cell? ⟨g,1,none⟩=some u1)(h2:w.cell? ⟨g,2,none⟩=some u2)(h3:w.cell? ⟨g,3,none⟩=some u3):∀j v,[u0,u1,u2,u3][j]?=some v->w.cell? ((⟨g,0,none⟩:Addr).add j)=some v:=by
 intro j v hv;match j,hv with
 | 0,hv=>obtain rfl:u0=v:=by simpa using hv
         exact h0
 | 1,hv=>obtain rfl:u1=v:=by simpa using hv
         exact h1
 | 2,hv=>obtain rfl:u2=v:=by simpa using hv
         exact h2
 | 3,hv=>obtain rfl:u3=v:=by simpa using hv
         exact h3
theorem zvq{w:World}{b c:Nat}{v0 v1 v2 v3:Value}(h:Cells w [(b,0,v0),(b,1,v1),(b,2,v2),(b,3,v3)])(q:Q4)(hn:b≠c):Cells ((((w.setCell ⟨c,0,none⟩ (.int .i64 q.1)).setCell ⟨c,1,none⟩ (.int .i64 q.2.1)).setCell ⟨c,2,none⟩ (.int .i64 q.2.2.1)).setCell ⟨c,3,none⟩ (.int .i64 q.2.2.2)) [(b,0,v0),(b,1,v1),(b,2,v2),(b,3,v3)]:=by refine Cells.onlyO (OnlyO.of_only (zp1 (x:=q) (o:=0) (Only.refl c w))) (fun x hx e=>?_) h;have e1:c=x.1:=osi e;simp only[List.mem_cons,List.not_mem_nil,or_false]at hx;rcases hx with rfl|rfl|rfl|rfl<;>exact hn e1.symm
theorem zul{T:List Q4}{k:Nat}(h:k<T.length)(f:Q4->Q4):(T.take (k+1)).map f=(T.take k).map f ++ [f T[k]]:=by rw[List.take_succ_eq_append_getElem h,List.map_append];rfl
section
variable{w:World}{aT:Option Addr}(cT:Nat){T:List Q4}(at':Int)
theorem zl9(hT:Qw w aT T)(hn:zbe T at'=true):
 Calls Tryz.prog 171 #[.slice aT T.length cT,.int .i64 at'] w (zh3 w T (T.map (zgf at')) (T.map (zgg at')) true):=by
 have hnb:=hn;unfold zbe at hnb;rw[bae]at hnb;have hc:=of_decide_eq_true hnb.1;have ht:=hnb.2;have htr:=zgz hc;have h30:=htr.l1;have h01:=htr.l0;have HCL:Hid (∀k (h:k<T.length),zdf T[k].2.1=true/\zdf T[k].2.2.1=true/\zpo T[k].2.2.2=true):=fun k h=>by have hk:=htr.sound.cls k h;unfold zhy at hk;simp only[bae]at hk;refine⟨hk.1.1.1.1,hk.1.1.1.2,?_⟩;have hu:=hk.2;unfold z0w at hu;unfold zpo;rw[bae]at hu ⊢;have:=of_decide_eq_true hu.1;exact⟨decide_eq_true (by omega),hu.2⟩
 clear hnb htr hn;obtain⟨iC,hiC,zC0,zC1,zC2⟩:=info_parts zhb;obtain⟨iB,hiB,zB0,zB1,zB2⟩:=info_parts zhx;have hTi:(T.length:Int)<=30:=by omega
 obtain⟨bT,oT,rfl,hbT,-⟩:=hT 0 h01;have nb:Bw w (w.alloc (.cells #[.slice none 0 0,.slice none 0 0,.slice none 0 0] 27)):=zad _ _;have KW:Hid (Kept w [(w.heap.size,0,.slice none 0 0),(w.heap.size,1,.slice none 0 0),(w.heap.size,2,.slice none 0 0)] [w.heap.size] (w.alloc (.cells #[.slice none 0 0,.slice none 0 0,.slice none 0 0] 27))) :=
  ⟨⟨⟨by simp,by go_simp⟩,⟨by simp,by go_simp⟩,⟨by simp,by go_simp⟩,trivial⟩,(fun b hb=>by simp only[List.mem_cons,List.not_mem_nil,or_false]at hb;subst hb;exact⟨by simp,fun o=>by go_simp⟩),nb⟩
 have z0:(w.alloc (.cells #[.slice none 0 0,.slice none 0 0,.slice none 0 0] 27)).heap.size=w.heap.size+1:=by simp
 go_enter Tryz.func171,Tryz.ntmps171;go_upto_region 3 with (first| (go_at_call 93;refine (ze4 cT hc (hT.here nb)).mono ?_;rintro e w2 ⟨rfl,hb2⟩;have K2:Hid (Kept w _ [w.heap.size] w2):=KW.out.next hb2)| (go_at_call 89;refine (zcl ht _).mono ?_;rintro e w3 ⟨rfl,rfl⟩));have hs2:=hb2.size;rw[z0]at hs2;have K3:=K2.out.next (zad w3 (.cells #[] 110));have hq3:Quad (w3.alloc (.cells #[] 110)).heap.size (w3.alloc (.cells #[] 110)) (some ⟨bT,oT,none⟩) T:=hT.here K3.hb;go_upto_region 4 with (at_builtin;refine wpList_append_own _ rfl _ _ 24 rfl (w.heap.size+1) 110 iC _ 4 32 Tryz.underlying24 hiC zC0 zC1 zC2 rfl (by decide) _ 0 [] rfl (zfu w3 (w.heap.size+1) hs2 _) ⟨bT,oT,none⟩ T.length cT (za5 T) rfl (zcv T) (zfv hq3) (zc6 T) ?c3 ?c4 ?c5 ?c6;rotate_left 3;intro v' w4 hown hgr hnil;rw[Nat.zero_add,List.nil_append]at hown;obtain⟨aV,cV,rfl⟩:=za2 hown);case c3=>unfold maxLen;omega
 case c4=>omega
 case c5=>simp;omega
 have K4:Kept w [(w.heap.size,0,.slice none 0 0),(w.heap.size,1,.slice none 0 0),(w.heap.size,2,.slice none 0 0)] [w.heap.size] w4:=by
  refine K3.onlyO (OnlyO.of_grown hgr) (fun j e=>by have e1:w3.heap.size=j:=osi e;omega) (fun c hc e=>?_) (fun b hb e=>?_)
  ·have e1:w3.heap.size=c.1:=osi e;simp only[List.mem_cons,List.not_mem_nil,or_false]at hc;rcases hc with rfl|rfl|rfl<;>simp only at e1<;>omega
  ·have e1:w3.heap.size=b:=osi e;simp only[List.mem_cons,List.not_mem_nil,or_false]at hb;omega
 have hs4:=hgr.size;have D:Hid (NlSt w (w4.alloc (.cells #[.slice aV T.length cV,.slice none 0 0,.slice none 0 0] 27)) w4.heap.size (.slice aV T.length cV) (.slice none 0 0) (.slice none 0 0) T [] []):=by have K5:=K4.next (zad w4 (.cells #[.slice aV T.length cV,.slice none 0 0,.slice none 0 0] 27));obtain⟨⟨e0,e1,e2,_⟩,hf,hbb⟩:=K5;simp only[World.size_alloc]at hs4;exact⟨⟨⟨e0,e1,e2,⟨by simp,by go_simp⟩,⟨by simp,by go_simp⟩,⟨by simp,by go_simp⟩,trivial⟩,(fun b hb=>by simp only[List.mem_cons,List.not_mem_nil,or_false]at hb;rcases hb with rfl|rfl;exact hf _ (List.mem_singleton.2 rfl);exact⟨by simp,fun o=>by go_simp⟩),hbb⟩,hown.alloc _,World.ownsRow_nil _ _ _ _,World.ownsRow_nil _ _ _ _,(fun g e=>by cases e),by omega,by simp,(fun e=>by have:=(hown.lt _ e).2;omega),(fun e=>by cases e),(fun e=>by cases e)⟩
 clear K2 K3 K4 KW hq3 hown hgr hnil hb2 hs2 hs4 z0 nb;obtain⟨v0,hv0⟩:∃v,w4.alloc (.cells #[.slice aV T.length cV,.slice none 0 0,.slice none 0 0] 27)=v:=⟨_,rfl⟩;rw[hv0]at D ⊢;obtain⟨b2,hb2⟩:∃b,w4.heap.size=b:=⟨_,rfl⟩;rw[hb2]at D ⊢;clear hv0 hb2;go_wp2;go_loopw [7] (fun i wr=>∃(k:Nat) (X Y:List Q4) (aX:Option Addr) (cX:Nat) (aY:Option Addr) (cY:Nat),i=.int .i64 k/\k<=T.length/\Hid (X=(T.take k).map (zgf at'))/\Hid (Y=(T.take k).map (zgg at'))/\Hid (NlSt w wr b2 (.slice aV T.length cV) (.slice aX X.length cX) (.slice aY Y.length cY) T X Y)) (fun i _=>T.length-(intOf i).toNat);case atStart=>exact⟨0,[],[],none,0,none,0,rfl,by omega,rfl,rfl,D⟩
 case round =>
  clear D;obtain⟨k,X,Y,aX,cX,aY,cY,rfl,hk,HX,HY,D⟩:=hrel;have hbw:=D.out.kept.hb;by_cases hlt:k<T.length
  ·have hlt':(k:Int)<(T.length:Int):=(by omega);have hcl:=HCL.out k hlt;obtain⟨x0,x1,x2,x3⟩:=hT.cells hbw k hlt;have hS1:=zul hlt (zgf at');have hS2:=zul hlt (zgg at');obtain⟨b,hb⟩:∃b,T[k]=b:=⟨_,rfl⟩;rw[hb]at x0 x1 x2 x3 hcl hS1 hS2;obtain⟨p,r,c,u⟩:=b;simp only at x0 x1 x2 x3 hcl;have HS1:Hid ((T.take (k+1)).map (zgf at')=X ++ [(r,u,1000000000*u,at')]):=(by rw[<-HX.out]at hS1;exact hS1);have HS2:Hid ((T.take (k+1)).map (zgg at')=Y ++ [(c,u,1000000000*u,at')]):=(by rw[<-HY.out]at hS2;exact hS2);have hf1:=fun W:World=>zxq hcl.1 hcl.2.2 ht W;have hf2:=fun W:World=>zxq hcl.2.1 hcl.2.2 ht W;have HT:Hid (T[k]=(p,r,c,u)):=hb;clear hb hS1 hS2 hcl;have z2:=D.out.sz;have zl:=D.out.lo;have oT1:(Value.slice aV T.length cV).ownBlock≠some wr.heap.size:=fun e=>(by have:=(D.out.rT.lt _ e).2;omega);have oX1:(Value.slice aX X.length cX).ownBlock≠some wr.heap.size:=fun e=>(by have:=(D.out.rO.lt _ e).2;omega);have oY1:(Value.slice aY Y.length cY).ownBlock≠some wr.heap.size:=fun e=>(by have:=(D.out.rP.lt _ e).2;omega);have hbTr:bT<wr.heap.size:=nlt hbT hbw.size;have nW:wr.heap.size≠bT:=(by omega);go_upto_region 7 with (fail);go_cut [8,9] from 31 to 45 (fun s f wd=>A8 w b2 (.slice aV T.length cV) (.slice aX X.length cX) (.slice aY Y.length cY) T X Y (r,u,1000000000*u,at') wr.heap.size s f wd);case first =>
    go_region_held3 (fun w'=>w'.cell? ⟨bT,oT+k*4+1,none⟩=some (.int .i64 r)/\w'.cell? ⟨bT,oT+k*4+3,none⟩=some (.int .i64 u)) (first|go_keep|exact⟨(zam nW).trans ((zam nW).trans ((zam nW).trans ((zam nW).trans j1))),(zam nW).trans ((zam nW).trans ((zam nW).trans ((zam nW).trans j3)))⟩)
     (first|(go_at_call 193;refine (hf1 _).mono ?_;rintro e v2 ⟨rfl,hb2⟩;have hbx:Bw wr v2:=zag (by go_grown) hb2;have D2:Hid (NlSt w v2 b2 (.slice aV T.length cV) (.slice aX X.length cX) (.slice aY Y.length cY) T X Y):=D.out.next hbx;have j1:=(zai hbx _ _ hbTr).trans x1;have j3:=(zai hbx _ _ hbTr).trans x3;have kc:=zai hb2;have kf:=zem hb2;have zB:=hb2.size;(try simp at zB);(try (have y1:wr.heap.size<v2.heap.size:=(by omega)))))
    (all_goals (repeat go_step));(all_goals go_meet);all_goals first|exact zuk D2.out hbx.size (r,u,1000000000*u,at') true|exact z02 (u0:=.int .i64 0) (u1:=.int .i64 0) (u2:=.int .i64 0) (u3:=.int .i64 0) D2.out (nrf _) (r,u,1000000000*u,at') true (by go_simp) (by go_simp) (by go_simp) (by go_simp) (by omega) (by omega) oT1 oX1 oY1
   case rest =>
    clear D hf1 z2 oT1 oX1 oY1 hbw nW hbTr;obtain⟨b8,fl,rfl,rfl,d,cb,hl8⟩:=hcut;have D:Hid (NlSt w wc b2 (.slice aV T.length cV) (.slice aX X.length cX) (.slice aY Y.length cY) T X Y):=d;have CB:Hid (Cells wc [(b8,0,.int .i64 r),(b8,1,.int .i64 u),(b8,2,.int .i64 (1000000000*u)),(b8,3,.int .i64 at')]):=cb;have hb8:b8<wc.heap.size:=cb.1.1;clear d cb;have hbw:=D.out.kept.hb;have z2:=D.out.sz;obtain⟨_,x1',x2',x3'⟩:=hT.cells hbw k hlt;have xx2:wc.cell? ⟨bT,oT+k*4+2,none⟩=some (.int .i64 c):=(by rw[HT.out]at x2';exact x2');have xx3:wc.cell? ⟨bT,oT+k*4+3,none⟩=some (.int .i64 u):=(by rw[HT.out]at x3';exact x3');clear x0 x1 x2 x3 x1' x2' x3';have oT1:(Value.slice aV T.length cV).ownBlock≠some wc.heap.size:=fun e=>(by have:=(D.out.rT.lt _ e).2;omega);have oX1:(Value.slice aX X.length cX).ownBlock≠some wc.heap.size:=fun e=>(by have:=(D.out.rO.lt _ e).2;omega);have oY1:(Value.slice aY Y.length cY).ownBlock≠some wc.heap.size:=fun e=>(by have:=(D.out.rP.lt _ e).2;omega);have hbTr:bT<wc.heap.size:=nlt hbT hbw.size;have nW:wc.heap.size≠bT:=(by omega);have oXg:∀g,(Value.slice aX X.length cX).ownBlock=some g->g<wc.heap.size:=fun g e=>(D.out.rO.lt g e).2;have oYg:∀g,(Value.slice aY Y.length cY).ownBlock=some g->g<wc.heap.size:=fun g e=>(D.out.rP.lt g e).2;have z2g:=z2;go_upto_region 8 with (fail);go_cut [10,11] from 46 to 60 (fun s f wd=>A8 w b2 (.slice aV T.length cV) (.slice aX X.length cX) (.slice aY Y.length cY) T X Y (c,u,1000000000*u,at') wc.heap.size s f wd/\Cells wd [(b8,0,.int .i64 r),(b8,1,.int .i64 u),(b8,2,.int .i64 (1000000000*u)),(b8,3,.int .i64 at')]);case first =>
     go_region_held3 (fun w'=>w'.cell? ⟨bT,oT+k*4+2,none⟩=some (.int .i64 c)/\w'.cell? ⟨bT,oT+k*4+3,none⟩=some (.int .i64 u)) (first|go_keep|exact⟨(zam nW).trans ((zam nW).trans ((zam nW).trans ((zam nW).trans j2))),(zam nW).trans ((zam nW).trans ((zam nW).trans ((zam nW).trans j3)))⟩)
      (first|(go_at_call 193;refine (hf2 _).mono ?_;rintro e v2 ⟨rfl,hb2⟩;have hbx:Bw wc v2:=zag (by go_grown) hb2;have D2:Hid (NlSt w v2 b2 (.slice aV T.length cV) (.slice aX X.length cX) (.slice aY Y.length cY) T X Y):=D.out.next hbx;have j2:=(zai hbx _ _ hbTr).trans xx2;have j3:=(zai hbx _ _ hbTr).trans xx3;have kc:=zai hb2;have kf:=zem hb2;have zB:=hb2.size;(try simp at zB);(try (have y1:wc.heap.size<v2.heap.size:=(by omega)))))
     (all_goals (repeat go_step));(all_goals go_meet);all_goals first|exact⟨zuk D2.out hbx.size (c,u,1000000000*u,at') true,(CB.out.next hbx).next (zad _ _)⟩|exact⟨z02 (u0:=.int .i64 0) (u1:=.int .i64 0) (u2:=.int .i64 0) (u3:=.int .i64 0) D2.out (nrf _) (c,u,1000000000*u,at') true (by go_simp) (by go_simp) (by go_simp) (by go_simp) (by omega) (by omega) oT1 oX1 oY1,zvq (CB.out.next hbx) (c,u,1000000000*u,at') (by omega)⟩
    case rest =>
     obtain⟨⟨b10,fl2,rfl,rfl,d,cb2,hl10⟩,cb1⟩:=hcut;clear D CB hf2 z2 oT1 oX1 oY1 hbw nW hbTr xx2 xx3;have D:Hid (NlSt w wc b2 (.slice aV T.length cV) (.slice aX X.length cX) (.slice aY Y.length cY) T X Y):=d;have C1:Hid (Cells wc [(b8,0,.int .i64 r),(b8,1,.int .i64 u),(b8,2,.int .i64 (1000000000*u)),(b8,3,.int .i64 at')]):=cb1;have C2:Hid (Cells wc [(b10,0,.int .i64 c),(b10,1,.int .i64 u),(b10,2,.int .i64 (1000000000*u)),(b10,3,.int .i64 at')]):=cb2;have hb10:b10<wc.heap.size:=cb2.1.1;have hb8':b8<wc.heap.size:=cb1.1.1;clear d cb1 cb2;have nX10:(Value.slice aX X.length cX).ownBlock≠some b10:=fun e=>(by have:=oXg b10 e;omega);have n210:b10≠b2:=(by omega);have hlX:X.length<=30:=(by rw[HX.out,List.length_map,List.length_take];omega);have hlY:Y.length<=30:=(by rw[HY.out,List.length_map,List.length_take];omega);have z3:=D.out.sz;have hws:=D.out.kept.hb.size;have ⟨⟨_,q0⟩,⟨_,q1⟩,⟨_,q2⟩,⟨_,q3⟩,⟨_,q4⟩,⟨_,q5⟩,_⟩:=D.out.kept.cells;have ⟨⟨_,p0⟩,⟨_,p1⟩,⟨_,p2⟩,⟨_,p3⟩,_⟩:=C1.out;have DA:Hid (NlSt w (wc.alloc (.cells #[.int .i64 r,.int .i64 u,.int .i64 (1000000000*u),.int .i64 at'] 53)) b2 (.slice aV T.length cV) (.slice aX X.length cX) (.slice aY Y.length cY) T X Y):=D.out.next (zad _ _);go_upto_region 10 with (at_builtin;refine zfm _ rfl _ _ 25 rfl (w.heap.size+1) 53 iB _ 4 32 Tryz.underlying25 hiB zB0 zB1 zB2 rfl (by decide) _ _ _ rfl DA.out.rO ⟨wc.heap.size,0,none⟩ 1 1 [.int .i64 r,.int .i64 u,.int .i64 (1000000000*u),.int .i64 at'] rfl rfl ?m1 ?m2 ?m3 ?m4 ?m5 ?m6 ?m7;rotate_left 6;intro v' w5 ho hgr hbl;obtain⟨gN,cN,rfl,_,_⟩:=zg0 ho (Nat.le_add_left 1 _);have KK:=DA.out.keeps hgr (fun g e=>(DA.out.rO.lt g e).1) DA.out.nO;have ⟨_,_,_,_,⟨_,s4⟩,_⟩:=KK.cells;have sF:=(KK.free b2 (List.mem_cons_of_mem _ (List.mem_singleton.2 rfl))).2;clear KK);case m1=>exact zn3 (by go_simp) (by go_simp) (by go_simp) (by go_simp)
     case m2=>exact zc6 [(r,u,1000000000*u,at')]
     case m3=>unfold maxLen;omega
     case m4=>omega
     case m5=>have:=DA.out.sz;have:=DA.out.lo;omega
     case m6=>omega
     have D9:Hid (NlSt w (w5.setCell ⟨b2,1,none⟩ (.slice (some ⟨gN,0,none⟩) (X.length+1) cN)) b2 (.slice aV T.length cV) (.slice (some ⟨gN,0,none⟩) (X.length+1) cN) (.slice aY Y.length cY) T (X ++ [(r,u,1000000000*u,at')]) Y):=DA.out.appO (x:=(r,u,1000000000*u,at')) hgr ho hbl;have C5:Cells w5 [(b10,0,.int .i64 c),(b10,1,.int .i64 u),(b10,2,.int .i64 (1000000000*u)),(b10,3,.int .i64 at')]:=(by refine Cells.onlyO (OnlyO.of_grown hgr) (fun x hx e=>?_) (C2.out.next (zad _ _));simp only[List.mem_cons,List.not_mem_nil,or_false]at hx;rcases hx with rfl|rfl|rfl|rfl<;>exact nX10 e);have C6:Hid (Cells (w5.setCell ⟨b2,1,none⟩ (.slice (some ⟨gN,0,none⟩) (X.length+1) cN)) [(b10,0,.int .i64 c),(b10,1,.int .i64 u),(b10,2,.int .i64 (1000000000*u)),(b10,3,.int .i64 at')]):=(by refine Cells.onlyO (OnlyO.of_grown (zez w5 b2 1 (.slice (some ⟨gN,0,none⟩) (X.length+1) cN))) (fun x hx e=>?_) C5;have e1:b2=x.1:=osi e;simp only[List.mem_cons,List.not_mem_nil,or_false]at hx;rcases hx with rfl|rfl|rfl|rfl<;>exact n210 e1.symm);obtain⟨v9,hv9⟩:∃v,w5.setCell ⟨b2,1,none⟩ (.slice (some ⟨gN,0,none⟩) (X.length+1) cN)=v:=⟨_,rfl⟩;rw[hv9]at D9 C6 ⊢;clear hv9 C5 C1 C2 DA D ho hgr hbl q0 q1 q2 q3 q4 q5 p0 p1 p2 p3 s4 sF z3 hws;have z3:=D9.out.sz;have hws:=D9.out.kept.hb.size;have hb10':b10<v9.heap.size:=C6.out.1.1;have ⟨⟨_,q0⟩,⟨_,q1⟩,⟨_,q2⟩,⟨_,q3⟩,⟨_,q4⟩,⟨_,q5⟩,_⟩:=D9.out.kept.cells;have ⟨⟨_,p0⟩,⟨_,p1⟩,⟨_,p2⟩,⟨_,p3⟩,_⟩:=C6.out;have DB:Hid (NlSt w (v9.alloc (.cells #[.int .i64 c,.int .i64 u,.int .i64 (1000000000*u),.int .i64 at'] 53)) b2 (.slice aV T.length cV) (.slice (some ⟨gN,0,none⟩) (X.length+1) cN) (.slice aY Y.length cY) T (X ++ [(r,u,1000000000*u,at')]) Y):=D9.out.next (zad _ _);go_wp2_with (at_builtin;refine zfm _ rfl _ _ 25 rfl (w.heap.size+1) 53 iB _ 4 32 Tryz.underlying25 hiB zB0 zB1 zB2 rfl (by decide) _ _ _ rfl DB.out.rP ⟨v9.heap.size,0,none⟩ 1 1 [.int .i64 c,.int .i64 u,.int .i64 (1000000000*u),.int .i64 at'] rfl rfl ?p1 ?p2 ?p3 ?p4 ?p5 ?p6 ?p7;rotate_left 6;intro v' w6 ho hgr hbl;obtain⟨gM,cM,rfl,_,_⟩:=zg0 ho (Nat.le_add_left 1 _);have KK:=DB.out.keeps hgr (fun g e=>(DB.out.rP.lt g e).1) DB.out.nP;have ⟨_,_,_,_,_,⟨_,s5⟩,_⟩:=KK.cells;have sF:=(KK.free b2 (List.mem_cons_of_mem _ (List.mem_singleton.2 rfl))).2;clear KK);case p1=>exact zn3 (by go_simp) (by go_simp) (by go_simp) (by go_simp)
     case p2=>exact zc6 [(c,u,1000000000*u,at')]
     case p3=>unfold maxLen;omega
     case p4=>omega
     case p5=>have:=DB.out.sz;have:=DB.out.lo;omega
     case p6=>omega
     have D10:=DB.out.appP (x:=(c,u,1000000000*u,at')) hgr ho hbl;go_roundw;case rel=>exact⟨k+1,X ++ [(r,u,1000000000*u,at')],Y ++ [(c,u,1000000000*u,at')],some ⟨gN,0,none⟩,cN,some ⟨gM,0,none⟩,cM,by go_num,by omega,HS1.out.symm,HS2.out.symm,(by rw[List.length_append,List.length_append];exact D10)⟩
     case measure=>simp[intOf]<;>omega
  ·have e:k=T.length:=(by omega);subst e;have HEX:Hid (X=T.map (zgf at')):=(by rw[HX.out,List.take_length];exact rfl);have HEY:Hid (Y=T.map (zgg at')):=(by rw[HY.out,List.take_length];exact rfl);have ⟨⟨_,q0⟩,⟨_,q1⟩,⟨_,q2⟩,⟨_,q3⟩,⟨_,q4⟩,⟨_,q5⟩,_⟩:=D.out.kept.cells;have fr:=(D.out.kept.free w.heap.size (List.mem_cons_self ..)).2;have n1:w.heap.size≠b2:=(by have:=D.out.lo;omega);go_wp2;refine bodyPost_ret (zah rfl _ _ _ [.slice aV T.length cV,.slice aX X.length cX,.slice aY Y.length cY] rfl (zeb (u0:=.slice none 0 0) (u1:=.slice none 0 0) (u2:=.slice none 0 0) _ _ _ q0 q1 q2) Tryz.underlying27 rfl (by kernel_rfl)) rfl ?_;have hfin:=nl_fin D.out (a:=.slice aV T.length cV) (b:=.slice aX X.length cX) (c:=.slice aY Y.length cY);rw[<-HEX.out,<-HEY.out];exact⟨_,_,_,_,_,_,_,_,_,rfl,hfin.1,hfin.2⟩
theorem ze5(hT:Qw w aT T):
 Calls Tryz.prog 171 #[.slice aT T.length cT,.int .i64 at'] w (zh3 w (zxm T at') (zxn T at') (zxo T at') (zbe T at')):=by
 cases h:zbe T at'
 ·have e:zxm T at'=[]/\zxn T at'=[]/\zxo T at'=[]:=(by unfold zxm zxn zxo;rw[h];exact⟨rfl,rfl,rfl⟩);rw[e.1,e.2.1,e.2.2];exact znd cT at' hT h
 ·have e:zxm T at'=T/\zxn T at'=T.map (zgf at')/\zxo T at'=T.map (zgg at'):=(by unfold zxm zxn zxo;rw[h];exact⟨rfl,rfl,rfl⟩);rw[e.1,e.2.1,e.2.2];exact zl9 cT at' hT h
end
theorem zma{w:World}{aT aO aP aL:Option Addr}(nT cT cO cP cL:Nat){O P:List Q4}{L:List Int}{n:Int}(hO:Qw w aO O)(hP:Qw w aP P)(hL:Iw w aL L)(hlen:O.length=P.length)(hp30:P.length<=30)(hin:∀j (h:j<L.length),0<=L[j]/\L[j]<P.length)(hL30:L.length<=30)(hn:1<=n/\n<=1500):
 Calls Tryz.prog 195 #[zea aT nT cT aO O.length cO aP P.length cP,.slice aL L.length cL,.int .i64 n] w fun e w'=>e=.returned (.int .i64 (zh1 O P n L))/\Bw w w':=by
 have HLE:Hid (O.length=P.length):=hlen;rw[hlen];clear hlen;have hn0:=hn.1;have hn1:=hn.2;have hLi:(L.length:Int)<=30:=by omega
 have hPi:(P.length:Int)<=30:=by omega
 clear hn;have nb:Bw w (w.alloc (.cells #[.slice aT nT cT,.slice aO P.length cO,.slice aP P.length cP] 27)):=zad _ _;have c1:(w.alloc (.cells #[.slice aT nT cT,.slice aO P.length cO,.slice aP P.length cP] 27)).cell? ⟨w.heap.size,1,none⟩=some (.slice aO P.length cO):=by go_simp
 have c2:(w.alloc (.cells #[.slice aT nT cT,.slice aO P.length cO,.slice aP P.length cP] 27)).cell? ⟨w.heap.size,2,none⟩=some (.slice aP P.length cP):=by go_simp
 have zb:w.heap.size<(w.alloc (.cells #[.slice aT nT cT,.slice aO P.length cO,.slice aP P.length cP] 27)).heap.size:=by simp
 obtain⟨W,hW⟩:∃W,w.alloc (.cells #[.slice aT nT cT,.slice aO P.length cO,.slice aP P.length cP] 27)=W:=⟨_,rfl⟩;rw[hW]at nb c1 c2 zb;go_enter Tryz.func195,Tryz.ntmps195;go_wp2;clear hW;go_loopw [7,8] (fun v s wr=>∃(j:Nat) (who:Int),s=.int .i64 j/\j<=L.length/\v=.int .i64 who/\Hid (zer O P n L j=some who)/\Bw W wr) (fun _ s _=>L.length-(intOf s).toNat);case atStart=>exact⟨0,-1,rfl,by omega,rfl,rfl,brf _ _⟩
 case round =>
  obtain⟨j,who,rfl,hj,rfl,HA,hbr⟩:=hrel;have hbw:Bw w wr:=zag nb hbr;have k1:=(zai hbr _ _ zb).trans c1;have k2:=(zai hbr _ _ zb).trans c2;by_cases hlt:j<L.length
  ·have hlt':(j:Int)<(L.length:Int):=(by omega);obtain⟨bl,ol,rfl,hbl,cl⟩:=hL.at hbw j hlt;have hi:=hin j hlt;obtain⟨x,hx⟩:∃x,L[j]=x:=⟨_,rfl⟩;have HX:Hid (L[j]=x):=hx;rw[hx]at hi cl;clear hx;obtain⟨i,rfl⟩:∃i:Nat,x=i:=⟨x.toNat,by omega⟩;have hip:i<P.length:=(by omega);have hio:i<O.length:=(by have:=HLE.out;omega);have hip':(i:Int)<(P.length:Int):=(by omega);obtain⟨bp,op,rfl,hbp,_,_,p2,_⟩:=hP.at hbw i hip;obtain⟨bo,oo,rfl,hbo,_,_,o2,_⟩:=hO.at hbw i hio;have hlp:=zjd hip;have hlo:=zjd hio;obtain⟨lp,hp⟩:∃l,P[i].2.2.1=l:=⟨_,rfl⟩;obtain⟨lo,ho⟩:∃l,O[i].2.2.1=l:=⟨_,rfl⟩;rw[hp]at p2 hlp;rw[ho]at o2 hlo;clear hp ho hi;by_cases hlow:lp<1000000000*n
   ·have HC:Hid (zh1 O P n L = -1):=z1w hlt HA.out (by rw[HX.out,hlp];exact hlow);clear hlp hlo;go_wp2;go_quiet (fail);go_wp2;go_ret;exact⟨zft HC.out.symm,zan hbw _⟩
   ·have hN:=zzp hlt HA.out (by rw[HX.out,hlp];exact hlow);rw[HX.out,hlo]at hN;have hlow':decide (lp<1000000000*n)=false:=decide_eq_false hlow;clear hlp hlo;by_cases hw:who<0
    ·by_cases hg:1000000000*n<=lo
     ·have HN:Hid (zer O P n L (j+1)=some (j:Int)):=(by rw[if_pos ⟨hw,hg⟩]at hN;exact hN);clear hN;go_wp2;go_quiet (fail);go_wp2;go_quiet (fail);go_wp2;go_roundw;case rel=>exact⟨j+1,(j:Int),by go_num,by omega,rfl,HN,zan hbr _⟩
      case measure=>simp[intOf]<;>omega
     ·have HN:Hid (zer O P n L (j+1)=some who):=(by rw[if_neg (fun h=>hg h.2)]at hN;exact hN);have hg':decide (1000000000*n<=lo)=false:=decide_eq_false hg;clear hN;go_wp2;go_quiet (fail);go_wp2;go_quiet (fail);go_wp2;go_roundw;case rel=>exact⟨j+1,who,by go_num,by omega,rfl,HN,zan hbr _⟩
      case measure=>simp[intOf]<;>omega
    ·have HN:Hid (zer O P n L (j+1)=some who):=(by rw[if_neg (fun h=>hw h.1)]at hN;exact hN);have hw':decide (who<0)=false:=decide_eq_false hw;clear hN;go_wp2;go_quiet (fail);go_wp2;go_quiet (fail);go_wp2;go_roundw;case rel=>exact⟨j+1,who,by go_num,by omega,rfl,HN,zan hbr _⟩
     case measure=>simp[intOf]<;>omega
  ·have e:j=L.length:=(by omega);subst e;have HC:Hid (zh1 O P n L=who):=(by show zh1 O P n L=who;unfold zh1;rw[HA.out]);go_wp2;go_ret;exact⟨zft HC.out.symm,hbw⟩
theorem fl_fin{w W:World}{b2:Nat}{sT sO sP:Value}{gT cT gO cO gP cP:Nat}{T X Y:List Q4}(d:FlSt w W b2 sT sO sP gT cT gO cO gP cP T X Y){a b c:Value}:
 zt9 w T X Y (.returned (zea (some ⟨gT,0,none⟩) T.length cT (some ⟨gO,0,none⟩) X.length cO (some ⟨gP,0,none⟩) Y.length cP)) (((W.setCell ⟨w.heap.size+1,0,none⟩ a).setCell ⟨w.heap.size+1,1,none⟩ b).setCell ⟨w.heap.size+1,2,none⟩ c) :=
 ⟨gT,cT,gO,cO,gP,cP,rfl,zch (za7 (za7 (za7 d.rT (by omega)) (by omega)) (by omega)) (by omega),zch (za7 (za7 (za7 d.rO (by omega)) (by omega)) (by omega)) (by omega),zch (za7 (za7 (za7 d.rP (by omega)) (by omega)) (by omega)) (by omega),
  d.ap,((d.kept.hb.setCell (by simp) _).setCell (by simp) _).setCell (by simp) _⟩
theorem zje{w:World}{aT aO aP:Option Addr}(cT cO cP:Nat){T O P:List Q4}(now:Int)(hT:Qw w aT T)(hO:Qw w aO O)(hP:Qw w aP P)(nT:1<=T.length/\T.length<=30)(lO:O.length=T.length)(lP:P.length=T.length)(hn:zba now=true)(okO:∀k (h:k<O.length),zle O[k]=true)(okP:∀k (h:k<P.length),zle P[k]=true):
 Calls Tryz.prog 90 #[zea aT T.length cT aO O.length cO aP P.length cP,.int .i64 now] w (zt9 w T (za1 now O) (za1 now P)):=by
 have HLO:Hid (O.length=T.length):=lO;have HLP:Hid (P.length=T.length):=lP;have hT1:=nT.1;have hT2:=nT.2;have hTi:(T.length:Int)<=30:=by omega
 have hO1:0<O.length:=by omega
 have hP1:0<P.length:=by omega
 obtain⟨bT,oT,rfl,hbT,-⟩:=hT 0 hT1;obtain⟨bO,oO,rfl,hbO,-⟩:=hO 0 hO1;obtain⟨bP,oP,rfl,hbP,-⟩:=hP 0 hP1;rw[lO,lP];have nb:Bw w ((w.alloc (.cells #[.slice (some ⟨bT,oT,none⟩) T.length cT,.slice (some ⟨bO,oO,none⟩) T.length cO,.slice (some ⟨bP,oP,none⟩) T.length cP] 27)).alloc (.cells #[.slice none 0 0,.slice none 0 0,.slice none 0 0] 27)):=by go_grown
 have hcp:=zja (w:=((w.alloc (.cells #[.slice (some ⟨bT,oT,none⟩) T.length cT,.slice (some ⟨bO,oO,none⟩) T.length cO,.slice (some ⟨bP,oP,none⟩) T.length cP] 27)).alloc (.cells #[.slice none 0 0,.slice none 0 0,.slice none 0 0] 27))) cT cO cP (hT.here nb) (hO.here nb) (hP.here nb) nT (by omega) (by omega);rw[lO,lP]at hcp;have KW:Hid (Kept w [(w.heap.size,0,.slice (some ⟨bT,oT,none⟩) T.length cT),(w.heap.size,1,.slice (some ⟨bO,oO,none⟩) T.length cO),(w.heap.size,2,.slice (some ⟨bP,oP,none⟩) T.length cP),(w.heap.size+1,0,.slice none 0 0),(w.heap.size+1,1,.slice none 0 0),(w.heap.size+1,2,.slice none 0 0)] [w.heap.size+1] ((w.alloc (.cells #[.slice (some ⟨bT,oT,none⟩) T.length cT,.slice (some ⟨bO,oO,none⟩) T.length cO,.slice (some ⟨bP,oP,none⟩) T.length cP] 27)).alloc (.cells #[.slice none 0 0,.slice none 0 0,.slice none 0 0] 27))) :=
  ⟨⟨⟨by simp<;>omega,by go_simp⟩,⟨by simp<;>omega,by go_simp⟩,⟨by simp<;>omega,by go_simp⟩,⟨by simp,by go_simp⟩,⟨by simp,by go_simp⟩,⟨by simp,by go_simp⟩,trivial⟩,
   (fun b hb=>by simp only[List.mem_cons,List.not_mem_nil,or_false]at hb;subst hb;exact⟨by simp,fun o=>by go_simp⟩),by go_grown⟩
 have zW:((w.alloc (.cells #[.slice (some ⟨bT,oT,none⟩) T.length cT,.slice (some ⟨bO,oO,none⟩) T.length cO,.slice (some ⟨bP,oP,none⟩) T.length cP] 27)).alloc (.cells #[.slice none 0 0,.slice none 0 0,.slice none 0 0] 27)).heap.size=w.heap.size+2:=by simp
 clear lO lP;go_enter Tryz.func90,Tryz.ntmps90;go_upto_region 2 with (go_at_call 116;refine hcp.mono ?_;clear hcp;rintro e w2 ⟨gT,dT,gO,dO,gP,dP,rfl,r1,r2,r3,hap,hb2⟩);rw[zW]at r1 r2 r3;have D:Hid (FlSt w (w2.alloc (.cells #[.slice (some ⟨gT,0,none⟩) T.length dT,.slice (some ⟨gO,0,none⟩) O.length dO,.slice (some ⟨gP,0,none⟩) P.length dP] 27)) w2.heap.size (.slice (some ⟨bT,oT,none⟩) T.length cT) (.slice (some ⟨bO,oO,none⟩) T.length cO) (.slice (some ⟨bP,oP,none⟩) T.length cP) gT dT gO dO gP dP T O P):=by have K2:=(KW.out.next hb2).next (zad w2 (.cells #[.slice (some ⟨gT,0,none⟩) T.length dT,.slice (some ⟨gO,0,none⟩) O.length dO,.slice (some ⟨gP,0,none⟩) P.length dP] 27));obtain⟨⟨e0,e1,e2,e3,e4,e5,_⟩,hf,hbb⟩:=K2;have hs:=hb2.size;rw[zW]at hs;exact⟨⟨⟨e0,e1,e2,e3,e4,e5,⟨by simp,by go_simp⟩,⟨by simp,by go_simp⟩,⟨by simp,by go_simp⟩,trivial⟩,hf,hbb⟩,r1.alloc _,r2.alloc _,r3.alloc _,hap,hs,(r2.lt gO rfl).2,(r3.lt gP rfl).2,(r1.lt gT rfl).2⟩
 have zb2:=hb2.size;clear r1 r2 r3 hb2 KW nb;obtain⟨v0,hv0⟩:∃v,w2.alloc (.cells #[.slice (some ⟨gT,0,none⟩) T.length dT,.slice (some ⟨gO,0,none⟩) O.length dO,.slice (some ⟨gP,0,none⟩) P.length dP] 27)=v:=⟨_,rfl⟩;rw[hv0]at D ⊢;obtain⟨b2,hb2⟩:∃b,w2.heap.size=b:=⟨_,rfl⟩;rw[hb2]at D ⊢;clear hv0 hb2 zb2 zW;go_wp2;go_loopw [6] (fun i wr=>∃(k:Nat) (X Y:List Q4),i=.int .i64 k/\k<=T.length/\Hid (X=zuj now O k)/\Hid (Y=zuj now P k)/\Hid (FlSt w wr b2 (.slice (some ⟨bT,oT,none⟩) T.length cT) (.slice (some ⟨bO,oO,none⟩) T.length cO) (.slice (some ⟨bP,oP,none⟩) T.length cP) gT dT gO dO gP dP T X Y) ) (fun i _=>T.length-(intOf i).toNat);case atStart=>exact⟨0,O,P,rfl,by omega,(zfd now O).symm,(zfd now P).symm,D⟩
 case round =>
  clear D;obtain⟨k,X,Y,rfl,hk,HX,HY,D⟩:=hrel;have HLX:Hid (X.length=T.length):=(by show X.length=T.length;rw[HX.out,zel now O k (by have:=HLO.out;omega),HLO.out]);have HLY:Hid (Y.length=T.length):=(by show Y.length=T.length;rw[HY.out,zel now P k (by have:=HLP.out;omega),HLP.out]);have ⟨⟨z0,q0⟩,⟨z1,q1⟩,⟨z2,q2⟩,⟨z3,q3⟩,⟨z4,q4⟩,⟨z5,q5⟩,⟨z6,q6⟩,⟨z7,q7⟩,⟨z8,q8⟩,_⟩:=D.out.kept.cells;rw[HLX.out]at q7;rw[HLY.out]at q8;have hbw:=D.out.kept.hb;by_cases hlt:k<T.length
  ·have hlt':(k:Int)<(T.length:Int):=(by omega);have hkO:k<O.length:=(by have:=HLO.out;omega);have hkP:k<P.length:=(by have:=HLP.out;omega);have hkX:k<X.length:=(by have:=HLX.out;omega);have hkY:k<Y.length:=(by have:=HLY.out;omega);have hlow:=D.out.low;have hlo2:=D.out.lo;have hnO:=D.out.nO;have hnP:=D.out.nP;have hlowO:=hlow.1;have hlowP:=hlow.2.1;clear hlow;obtain⟨x0,x1,x2,x3⟩:=hO.cells (brf _ _) k hkO;have hbk:=okO k hkO;have hS:=zfz (now:=now) hkO;obtain⟨b,hb⟩:∃b,O[k]=b:=⟨_,rfl⟩;rw[hb]at x0 x1 x2 x3 hbk hS;obtain⟨r,u,l,t⟩:=b;simp only at x0 x1 x2 x3;have hbk:zj0 r u l t=true:=hbk;have HSX:Hid (X.set k (zjc now (r,u,l,t))=zuj now O (k+1)):=(by rw[<-HX.out]at hS;exact hS);clear hb hS;have y0:=(hbw.cell (p:=⟨bO,oO+k*4,none⟩) hbO).trans x0;have y1:=(hbw.cell (p:=⟨bO,oO+k*4+1,none⟩) hbO).trans x1;have y2:=(hbw.cell (p:=⟨bO,oO+k*4+2,none⟩) hbO).trans x2;have y3:=(hbw.cell (p:=⟨bO,oO+k*4+3,none⟩) hbO).trans x3;have fB:gO≠b2:=(by omega);have fW:gO≠w.heap.size:=(by omega);have fX:gO≠bO:=(by omega);have hfl:=fun W:World=>znu (now:=now) W hbk hn;have hstep:∀v2:World,Below wr.drew.heap.size wr.drew v2->Hid (FlSt w v2 b2 (.slice (some ⟨bT,oT,none⟩) T.length cT) (.slice (some ⟨bO,oO,none⟩) T.length cO) (.slice (some ⟨bP,oP,none⟩) T.length cP) gT dT gO dO gP dP T X Y)/\v2.cell? ⟨b2,1,none⟩=some (.slice (some ⟨gO,0,none⟩) T.length dO)/\v2.cell? ⟨w.heap.size,1,none⟩=some (.slice (some ⟨bO,oO,none⟩) T.length cO)/\v2.cell? ⟨bO,oO+k*4,none⟩=some (.int .i64 r)/\v2.cell? ⟨bO,oO+k*4+1,none⟩=some (.int .i64 u)/\v2.cell? ⟨bO,oO+k*4+2,none⟩=some (.int .i64 l)/\v2.cell? ⟨bO,oO+k*4+3,none⟩=some (.int .i64 t)/\v2.cell? ⟨gO,k*4,none⟩=some (.int .i64 X[k].1)/\v2.cell? ⟨gO,k*4+1,none⟩=some (.int .i64 X[k].2.1)/\v2.cell? ⟨gO,k*4+2,none⟩=some (.int .i64 X[k].2.2.1)/\v2.cell? ⟨gO,k*4+3,none⟩=some (.int .i64 X[k].2.2.2)/\(∀j,v2.frozen? ⟨gO,j,none⟩=false):=(by intro v2 hb2;have D2:=(D.out.next (brf _ _).drew).next hb2;have hbv:=D2.kept.hb;have ⟨_,⟨_,p1⟩,⟨_,p2⟩,_,_,_,⟨_,p7⟩,⟨_,p8⟩,⟨_,p9⟩,_⟩:=D2.kept.cells;rw[HLX.out]at p8;rw[HLY.out]at p9;have hrow:=z0z (i:=k) D2.rO hkX rfl;exact⟨D2,p8,p1,(hbv.cell (p:=⟨bO,oO+k*4,none⟩) hbO).trans x0,(hbv.cell (p:=⟨bO,oO+k*4+1,none⟩) hbO).trans x1,(hbv.cell (p:=⟨bO,oO+k*4+2,none⟩) hbO).trans x2,(hbv.cell (p:=⟨bO,oO+k*4+3,none⟩) hbO).trans x3,hrow.1.1,hrow.1.2.1,hrow.1.2.2.1,hrow.1.2.2.2,hrow.2⟩);go_upto_region 5 with (fail);go_cut [] from 16 to 26 (fun wd=>FlSt w wd b2 (.slice (some ⟨bT,oT,none⟩) T.length cT) (.slice (some ⟨bO,oO,none⟩) T.length cO) (.slice (some ⟨bP,oP,none⟩) T.length cP) gT dT gO dO gP dP T (X.set k (zjc now (r,u,l,t))) Y);case first =>
    go_region_held3 (fun w'=>w'.cell? ⟨b2,1,none⟩=some (.slice (some ⟨gO,0,none⟩) T.length dO)/\w'.cell? ⟨w.heap.size,1,none⟩=some (.slice (some ⟨bO,oO,none⟩) T.length cO)/\w'.cell? ⟨bO,oO+k*4,none⟩=some (.int .i64 r)/\w'.cell? ⟨bO,oO+k*4+1,none⟩=some (.int .i64 u)/\w'.cell? ⟨bO,oO+k*4+2,none⟩=some (.int .i64 l)/\w'.cell? ⟨bO,oO+k*4+3,none⟩=some (.int .i64 t)) (first|exact⟨p7,p1,y0,y1,y2,y3⟩|exact⟨q7,q1,y0,y1,y2,y3⟩|exact⟨(zam fB).trans ((zam fB).trans ((zam fB).trans ((zam fB).trans p7))),(zam fW).trans ((zam fW).trans ((zam fW).trans ((zam fW).trans p1))),(zam fX).trans ((zam fX).trans ((zam fX).trans ((zam fX).trans y0))),(zam fX).trans ((zam fX).trans ((zam fX).trans ((zam fX).trans y1))),(zam fX).trans ((zam fX).trans ((zam fX).trans ((zam fX).trans y2))),(zam fX).trans ((zam fX).trans ((zam fX).trans ((zam fX).trans y3)))⟩)
     (first|(go_at_call 140;refine (hfl _).mono ?_;rintro e v2 ⟨rfl,hb2⟩;obtain⟨D2,p7,p1,y0,y1,y2,y3,m0,m1,m2,m3,mF⟩:=hstep _ hb2))
    (all_goals (repeat go_step));(all_goals go_meet);all_goals exact D2.out.putO k (zjc now (r,u,l,t))
   case rest =>
    have D1:Hid (FlSt w wc b2 (.slice (some ⟨bT,oT,none⟩) T.length cT) (.slice (some ⟨bO,oO,none⟩) T.length cO) (.slice (some ⟨bP,oP,none⟩) T.length cP) gT dT gO dO gP dP T (X.set k (zjc now (r,u,l,t))) Y):=hcut;clear D hstep hfl q0 q1 q2 q3 q4 q5 q6 q7 q8 z0 z1 z2 z3 z4 z5 z6 z7 z8 x0 x1 x2 x3 y0 y1 y2 y3 hbk hbw hkX fB fW fX;obtain⟨X1,hX1⟩:∃X1,X.set k (zjc now (r,u,l,t))=X1:=⟨_,rfl⟩;have HX1:Hid (X1=zuj now O (k+1)):=(by rw[<-hX1];exact HSX.out);have HLX1:Hid (X1.length=T.length):=(by rw[<-hX1];show (X.set k _).length=T.length;rw[List.length_set];exact HLX.out);have D:Hid (FlSt w wc b2 (.slice (some ⟨bT,oT,none⟩) T.length cT) (.slice (some ⟨bO,oO,none⟩) T.length cO) (.slice (some ⟨bP,oP,none⟩) T.length cP) gT dT gO dO gP dP T X1 Y):=(by rw[<-hX1];exact D1.out);clear D1 hX1 HSX HX HLX;have HLX:=HLX1;have ⟨⟨z0,q0⟩,⟨z1,q1⟩,⟨z2,q2⟩,⟨z3,q3⟩,⟨z4,q4⟩,⟨z5,q5⟩,⟨z6,q6⟩,⟨z7,q7⟩,⟨z8,q8⟩,_⟩:=D.out.kept.cells;rw[HLX.out]at q7;rw[HLY.out]at q8;have hbw:=D.out.kept.hb;obtain⟨x0,x1,x2,x3⟩:=hP.cells (brf _ _) k hkP;have hbk:=okP k hkP;have hS:=zfz (now:=now) hkP;obtain⟨b,hb⟩:∃b,P[k]=b:=⟨_,rfl⟩;rw[hb]at x0 x1 x2 x3 hbk hS;obtain⟨r,u,l,t⟩:=b;simp only at x0 x1 x2 x3;have hbk:zj0 r u l t=true:=hbk;have HSY:Hid (Y.set k (zjc now (r,u,l,t))=zuj now P (k+1)):=(by rw[<-HY.out]at hS;exact hS);clear hb hS;have y0:=(hbw.cell (p:=⟨bP,oP+k*4,none⟩) hbP).trans x0;have y1:=(hbw.cell (p:=⟨bP,oP+k*4+1,none⟩) hbP).trans x1;have y2:=(hbw.cell (p:=⟨bP,oP+k*4+2,none⟩) hbP).trans x2;have y3:=(hbw.cell (p:=⟨bP,oP+k*4+3,none⟩) hbP).trans x3;have fB:gP≠b2:=(by omega);have fW:gP≠w.heap.size:=(by omega);have fX:gP≠bP:=(by omega);have hfl:=fun W:World=>znu (now:=now) W hbk hn;have hstep:∀v2:World,Below wc.drew.heap.size wc.drew v2->Hid (FlSt w v2 b2 (.slice (some ⟨bT,oT,none⟩) T.length cT) (.slice (some ⟨bO,oO,none⟩) T.length cO) (.slice (some ⟨bP,oP,none⟩) T.length cP) gT dT gO dO gP dP T X1 Y)/\v2.cell? ⟨b2,2,none⟩=some (.slice (some ⟨gP,0,none⟩) T.length dP)/\v2.cell? ⟨w.heap.size,2,none⟩=some (.slice (some ⟨bP,oP,none⟩) T.length cP)/\v2.cell? ⟨bP,oP+k*4,none⟩=some (.int .i64 r)/\v2.cell? ⟨bP,oP+k*4+1,none⟩=some (.int .i64 u)/\v2.cell? ⟨bP,oP+k*4+2,none⟩=some (.int .i64 l)/\v2.cell? ⟨bP,oP+k*4+3,none⟩=some (.int .i64 t)/\v2.cell? ⟨gP,k*4,none⟩=some (.int .i64 Y[k].1)/\v2.cell? ⟨gP,k*4+1,none⟩=some (.int .i64 Y[k].2.1)/\v2.cell? ⟨gP,k*4+2,none⟩=some (.int .i64 Y[k].2.2.1)/\v2.cell? ⟨gP,k*4+3,none⟩=some (.int .i64 Y[k].2.2.2)/\(∀j,v2.frozen? ⟨gP,j,none⟩=false):=(by intro v2 hb2;have D2:=(D.out.next (brf _ _).drew).next hb2;have hbv:=D2.kept.hb;have ⟨_,⟨_,p1⟩,⟨_,p2⟩,_,_,_,⟨_,p7⟩,⟨_,p8⟩,⟨_,p9⟩,_⟩:=D2.kept.cells;rw[HLX.out]at p8;rw[HLY.out]at p9;have hrow:=z0z (i:=k) D2.rP hkY rfl;exact⟨D2,p9,p2,(hbv.cell (p:=⟨bP,oP+k*4,none⟩) hbP).trans x0,(hbv.cell (p:=⟨bP,oP+k*4+1,none⟩) hbP).trans x1,(hbv.cell (p:=⟨bP,oP+k*4+2,none⟩) hbP).trans x2,(hbv.cell (p:=⟨bP,oP+k*4+3,none⟩) hbP).trans x3,hrow.1.1,hrow.1.2.1,hrow.1.2.2.1,hrow.1.2.2.2,hrow.2⟩);go_upto_region 6 with (fail);go_region_held3 (fun w'=>w'.cell? ⟨b2,2,none⟩=some (.slice (some ⟨gP,0,none⟩) T.length dP)/\w'.cell? ⟨w.heap.size,2,none⟩=some (.slice (some ⟨bP,oP,none⟩) T.length cP)/\w'.cell? ⟨bP,oP+k*4,none⟩=some (.int .i64 r)/\w'.cell? ⟨bP,oP+k*4+1,none⟩=some (.int .i64 u)/\w'.cell? ⟨bP,oP+k*4+2,none⟩=some (.int .i64 l)/\w'.cell? ⟨bP,oP+k*4+3,none⟩=some (.int .i64 t)) (first|exact⟨p7,p1,y0,y1,y2,y3⟩|exact⟨q8,q2,y0,y1,y2,y3⟩|exact⟨(zam fB).trans ((zam fB).trans ((zam fB).trans ((zam fB).trans p7))),(zam fW).trans ((zam fW).trans ((zam fW).trans ((zam fW).trans p1))),(zam fX).trans ((zam fX).trans ((zam fX).trans ((zam fX).trans y0))),(zam fX).trans ((zam fX).trans ((zam fX).trans ((zam fX).trans y1))),(zam fX).trans ((zam fX).trans ((zam fX).trans ((zam fX).trans y2))),(zam fX).trans ((zam fX).trans ((zam fX).trans ((zam fX).trans y3)))⟩)
     (first|(go_at_call 140;refine (hfl _).mono ?_;rintro e v2 ⟨rfl,hb2⟩;obtain⟨D2,p7,p1,y0,y1,y2,y3,m0,m1,m2,m3,mF⟩:=hstep _ hb2))
    (all_goals go_wp2);(all_goals go_roundw);all_goals first| exact⟨k+1,X1,_,by go_num,by omega,HX1,HSY,D2.out.putP k (zjc now (r,u,l,t))⟩| (simp[intOf];done)| (simp[intOf];omega)
  ·have e:k=T.length:=(by omega);subst e;have eX:X=za1 now O:=(by rw[HX.out,<-HLO.out];exact zfy now O);have eY:Y=za1 now P:=(by rw[HY.out,<-HLP.out];exact zfy now P);have HEX:Hid (X=za1 now O):=eX;have HEY:Hid (Y=za1 now P):=eY;clear eX eY HX HY;have fr:=(D.out.kept.free (w.heap.size+1) (List.mem_singleton.2 rfl)).2;have n1:w.heap.size+1≠b2:=(by have:=D.out.lo;omega);go_wp2;refine bodyPost_ret (zaf rfl _ _ _ [.slice (some ⟨gT,0,none⟩) T.length dT,.slice (some ⟨gO,0,none⟩) T.length dO,.slice (some ⟨gP,0,none⟩) T.length dP] rfl (zeb (u0:=.slice none 0 0) (u1:=.slice none 0 0) (u2:=.slice none 0 0) _ _ _ q3 q4 q5) Tryz.underlying27 rfl (by kernel_rfl)) rfl ?_;have hfin:=fl_fin D.out (a:=.slice (some ⟨gT,0,none⟩) T.length dT) (b:=.slice (some ⟨gO,0,none⟩) T.length dO) (c:=.slice (some ⟨gP,0,none⟩) T.length dP);rw[HLX.out,HLY.out,HEX.out,HEY.out]at hfin;exact hfin
theorem zf0{w:World}{base:Nat}{a:Option Addr}{c:Nat}{t:TypeId}{T:List Q4}(h:w.ownsRow base t 4 (.slice a T.length c) T.length (za5 T)):Qw w a T:=(zek h).quad.2
structure Told (T O P:List Q4) (leaf now n:Int):Prop where
 lend:IsLend T O P
 l0:0<=leaf
 l1:leaf<T.length
 isLeaf:zdg T leaf=true
 isTime:zba now=true
 isLate:zeq O<=now
 isSeg:zfo n=true
theorem zxr{T O P:List Q4}{leaf now n:Int}(h:zcy T O P leaf now n=true):Told T O P leaf now n:=by unfold zcy at h;simp only[bae,decide_eq_true_eq]at h;exact⟨zbo h.1.1.1.1.1,h.1.1.1.1.2.1,by have:=h.1.1.1.1.2.2;omega,h.1.1.1.2,h.1.1.2,h.1.2,h.2⟩
def zf1(T O P:List Q4)(leaf now n:Int):Int:=zh1 (za1 now O) (za1 now P) n (zaq T leaf)
theorem zqn(T O P:List Q4)(leaf now n:Int):zf1 T O P leaf now n = -1\/(0<=zf1 T O P leaf now n/\zf1 T O P leaf now n<(zaq T leaf).length):=zvo _ _ _ _
end Go.Proofs.YthiojkjcmhojoaaGreat
