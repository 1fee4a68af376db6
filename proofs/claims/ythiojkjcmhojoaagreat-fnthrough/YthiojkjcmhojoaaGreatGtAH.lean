import Derived.Test.YthiojkjcmhojoaaGreatGtAG
import Derived.Deep.RegionHeld3
namespace Go.Proofs.YthiojkjcmhojoaaGreat
set_option maxHeartbeats 1000000
open Go.ChangeShapes Go.WideShapes Go.ChangeAt Go.RowKit
set_option maxRecDepth 100000
set_option linter.all false
theorem ret_b{f g:Bool}(h:f=g):Ending.returned (.bool f)=.returned (.bool g):=by rw[h]
def ISmp(B:Nat)(w:World)(a:Option Addr)(xs:List Int):Prop:=∀i (h:i<xs.length),∃b off,a=some ⟨b,off,none⟩/\b<B/\w.cell? ⟨b,off+i,none⟩=some (.int .i64 xs[i])
abbrev Iw(w:World)(a:Option Addr)(x:List Int):Prop:=ISmp w.heap.size w a x
theorem ISmp.at{B:Nat}{w w':World}{a:Option Addr}{xs:List Int}(h:ISmp B w a xs)(hb:Below B w w')(i:Nat)(hi:i<xs.length):∃b off,a=some ⟨b,off,none⟩/\b<B/\w'.cell? ⟨b,off+i,none⟩=some (.int .i64 xs[i]):=by obtain⟨b,off,e,hl,c⟩:=h i hi;exact⟨b,off,e,hl,bct hb hl c⟩
theorem IFill.smp{w:World}{g n B:Nat}{xs:List Int}(f:IFill w g n xs xs.length)(h:g<B):ISmp B w (some ⟨g,0,none⟩) xs:=fun i hi=>⟨g,0,rfl,h,by rw[Nat.zero_add];exact f.got i hi hi⟩
theorem zt1(B:Nat)(w:World)(a:Option Addr):ISmp B w a []:=fun i h=>by cases h
theorem IV.smp{w:World}{lo:Nat}{v:Value}{xs:List Int}(h:IV w lo v xs):∃a cap,v=.slice a xs.length cap/\Iw w a xs:=by
 rcases h with⟨g,cap,rfl,h1,h2,f,hc⟩|⟨rfl,rfl⟩
 ·exact⟨_,_,rfl,f.smp h2⟩
 ·exact⟨none,0,rfl,zt1 _ _ _⟩
def marksI(k:Int)(n:Nat):List Int:=(List.range n).map fun (i:Nat)=>k+(i:Int)
structure OnlyI (lo hi:Nat) (w w':World):Prop where
 os:w'.os=w.os
 tape:w'.tape=w.tape
 output:w'.output=w.output
 size:w.heap.size<=w'.heap.size
 block:∀k,k<w.heap.size->(k<lo\/hi<=k)->w'.heap[k]?=w.heap[k]?
theorem OnlyI.trans{lo hi:Nat}{u v w:World}(h:OnlyI lo hi u v)(k:OnlyI lo hi v w):OnlyI lo hi u w :=
 ⟨k.os.trans h.os,k.tape.trans h.tape,k.output.trans h.output,ntr h.size k.size,fun b hb hn=>(k.block b (nlt hb h.size) hn).trans (h.block b hb hn)⟩
theorem OnlyI.of_below{lo hi:Nat}{w w':World}(h:Bw w w'):OnlyI lo hi w w':=⟨h.os,h.tape,h.output,h.size,fun k hk _=>h.block k hk⟩
theorem OnlyI.below{lo hi B:Nat}{w w':World}(h:OnlyI lo hi w w')(hl:B<=lo)(hB:B<=w.heap.size):Below B w w' :=
 ⟨h.os,h.tape,h.output,h.size,fun k hk=>h.block k (by omega) (by omega)⟩
theorem OnlyI.ofO{lo hi:Nat}{o:Option Nat}{w w':World}(h:OnlyO o w w')(ho:∀g,o=some g->lo<=g/\g<hi):OnlyI lo hi w w' :=
 ⟨h.os,h.tape,h.output,h.size,fun k hk hn=>h.block k hk (fun e=>by have:=ho k e;omega)⟩
theorem newB(w:World)(o:Obj):Bw w (w.alloc o):=(brf _ _).alloc (nrf _) _
abbrev F8:=Int × Int × List Int
theorem ISmp.mono{B:Nat}{w w':World}{a:Option Addr}{xs:List Int}(h:ISmp B w a xs)(hb:Below B w w'):ISmp B w' a xs:=fun i hi=>h.at hb i hi
theorem ISmp.up{B B':Nat}{w:World}{a:Option Addr}{xs:List Int}(h:ISmp B w a xs)(hb:B<=B'):ISmp B' w a xs:=fun i hi=>by obtain⟨b,off,e,hl,c⟩:=h i hi;exact⟨b,off,e,nlt hl hb,c⟩
theorem ISmp.here{w x:World}{a:Option Addr}{xs:List Int}(h:Iw w a xs)(hb:Bw w x):Iw x a xs:=(h.mono hb).up hb.size
def Fls(B:Nat)(w:World)(a:Option Addr)(fs:List F8):Prop :=
 ∀i (h:i<fs.length),∃b off sa sc,a=some ⟨b,off,none⟩/\b<B/\w.cell? ⟨b,off+i*3,none⟩=some (.int .i64 fs[i].1)/\w.cell? ⟨b,off+i*3+1,none⟩=some (.int .i64 fs[i].2.1)/\w.cell? ⟨b,off+i*3+2,none⟩=some (.slice sa fs[i].2.2.length sc)/\ISmp B w sa fs[i].2.2
abbrev Fw(w:World)(a:Option Addr)(x:List F8):Prop:=Fls w.heap.size w a x
theorem Fls.nil(B:Nat)(w:World)(a:Option Addr):Fls B w a []:=fun i h=>by cases h
theorem Fls.mono{B:Nat}{w w':World}{a:Option Addr}{fs:List F8}(h:Fls B w a fs)(hb:Below B w w'):Fls B w' a fs:=fun i hi=>by obtain⟨b,off,sa,sc,e,hl,c0,c1,c2,s⟩:=h i hi;exact⟨b,off,sa,sc,e,hl,bct hb hl c0,bct hb hl c1,bct hb hl c2,s.mono hb⟩
theorem Fls.up{B B':Nat}{w:World}{a:Option Addr}{fs:List F8}(h:Fls B w a fs)(hb:B<=B'):Fls B' w a fs:=fun i hi=>by obtain⟨b,off,sa,sc,e,hl,c0,c1,c2,s⟩:=h i hi;exact⟨b,off,sa,sc,e,nlt hl hb,c0,c1,c2,s.up hb⟩
theorem Fls.here{w x:World}{a:Option Addr}{fs:List F8}(h:Fw w a fs)(hb:Bw w x):Fw x a fs:=(h.mono hb).up hb.size
theorem Fls.at{B:Nat}{w:World}{a:Option Addr}{fs:List F8}(h:Fls B w a fs){w':World}(hb:Below B w w')(i:Nat)(hi:i<fs.length):
 ∃b off sa sc,a=some ⟨b,off,none⟩/\b<B/\w'.cell? ⟨b,off+i*3,none⟩=some (.int .i64 fs[i].1)/\w'.cell? ⟨b,off+i*3+1,none⟩=some (.int .i64 fs[i].2.1)/\w'.cell? ⟨b,off+i*3+2,none⟩=some (.slice sa fs[i].2.2.length sc)/\ISmp B w' sa fs[i].2.2:=h.mono hb i hi
def elB:Value->Option Nat
 | .slice (some a) (_+1) _=>some a.block| _=>none
def IO(w:World)(lo hi:Nat)(v:Value)(xs:List Int):Prop :=
 ∃a cap,v=.slice a xs.length cap/\xs.length<=cap/\(xs=[]\/∃g off,a=some ⟨g,off,none⟩/\lo<=g/\g<hi/\g<w.heap.size/\∀i (h:i<xs.length),w.cell? ⟨g,off+i,none⟩=some (.int .i64 xs[i])/\w.frozen? ⟨g,off+i,none⟩=false)
section
variable{w:World}{lo hi:Nat}{v:Value}{xs:List Int}
theorem IO.el(h:IO w lo hi v xs){b:Nat}(hb:elB v=some b):lo<=b/\b<hi/\b<w.heap.size:=by
 obtain⟨a,cap,rfl,_,h⟩:=h;rcases h with rfl|⟨g,off,rfl,h1,h2,h3,_⟩
 ·cases a<;>cases hb
 ·cases hn:xs.length with
  | zero=>rw[hn]at hb;cases hb| succ n =>rw[hn]at hb;have e:g=b:=osi hb;subst e;exact⟨h1,h2,h3⟩
theorem IO.smp(h:IO w lo hi v xs):∃a cap,v=.slice a xs.length cap/\xs.length<=cap/\Iw w a xs:=by
 obtain⟨a,cap,rfl,hc,h⟩:=h;rcases h with rfl|⟨g,off,rfl,h1,h2,h3,h4⟩
 ·exact⟨a,cap,rfl,hc,zt1 _ _ _⟩
 ·exact⟨_,_,rfl,hc,fun i hi=>⟨g,off,rfl,h3,(h4 i hi).1⟩⟩
end
theorem IO.same{w w':World}{lo hi:Nat}{v:Value}{xs:List Int}(h:IO w lo hi v xs)(hs:w.heap.size<=w'.heap.size)(hb:∀b,elB v=some b->w'.heap[b]?=w.heap[b]?):IO w' lo hi v xs:=by
 obtain⟨a,cap,rfl,hc,h⟩:=h;refine⟨a,cap,rfl,hc,?_⟩;rcases h with rfl|⟨g,off,rfl,h1,h2,h3,h4⟩
 ·exact .inl rfl
 ·cases hn:xs with
  | nil=>exact .inl rfl| cons x r =>rw[<-hn];have e:=hb g (by rw[hn];rfl);exact .inr ⟨g,off,rfl,h1,h2,nlt h3 hs,fun i hi=>⟨(World.cell?_of_block (a:=⟨g,off+i,none⟩) e).trans (h4 i hi).1,(World.frozen?_of_block (a:=⟨g,off+i,none⟩) e).trans (h4 i hi).2⟩⟩
theorem IO.wider{w:World}{lo hi lo' hi':Nat}{v:Value}{xs:List Int}(h:IO w lo hi v xs)(h1:lo'<=lo)(h2:hi<=hi'):IO w lo' hi' v xs:=by
 obtain⟨a,cap,rfl,hc,h⟩:=h;refine⟨a,cap,rfl,hc,?_⟩;rcases h with rfl|⟨g,off,rfl,k1,k2,h3⟩
 ·exact .inl rfl
 ·exact .inr ⟨g,off,rfl,by omega,by omega,h3⟩
theorem IV.io{w:World}{lo:Nat}{v:Value}{xs:List Int}(h:IV w lo v xs):IO w lo w.heap.size v xs:=by
 rcases h with⟨g,cap,rfl,h1,h2,f,hc⟩|⟨rfl,rfl⟩
 ·exact⟨_,cap,rfl,hc,.inr ⟨g,0,rfl,h1,h2,h2,fun i hi=>by rw[Nat.zero_add];exact⟨f.got i hi hi,(f.any i hi).2⟩⟩⟩
 ·exact⟨none,0,rfl,nrf _,.inl rfl⟩
structure FO (w:World) (lo hi g n:Nat) (vs:List Value) (fs:List F8):Prop where
 g0:lo<=g
 g1:g<hi
 top:hi<=w.heap.size
 len:vs.length=fs.length
 le:fs.length<=n
 any:∀j,j<n*3->(∃z,w.cell? ⟨g,j,none⟩=some z)/\w.frozen? ⟨g,j,none⟩=false
 got:∀i (h:i<fs.length) (h':i<vs.length),w.cell? ⟨g,i*3,none⟩=some (.int .i64 fs[i].1)/\w.cell? ⟨g,i*3+1,none⟩=some (.int .i64 fs[i].2.1)/\w.cell? ⟨g,i*3+2,none⟩=some vs[i]
 own:∀i (h:i<fs.length) (h':i<vs.length),IO w lo hi vs[i] fs[i].2.2
 far:∀i (h':i<vs.length),elB vs[i]≠some g
 apart:∀i j (h:i<vs.length) (h':j<vs.length),i≠j->∀b,elB vs[i]=some b->elB vs[j]≠some b
theorem FO.same{w w':World}{lo hi g n:Nat}{vs:List Value}{fs:List F8}(h:FO w lo hi g n vs fs)(hs:w.heap.size<=w'.heap.size)(hb:∀b,lo<=b->b<hi->w'.heap[b]?=w.heap[b]?):FO w' lo hi g n vs fs:=by
 have eg:=hb g h.g0 h.g1;refine⟨h.g0,h.g1,ntr h.top hs,h.len,h.le,fun j hj=>?_,fun i hi' h'=>?_,fun i hi' h'=>?_,h.far,h.apart⟩
 ·obtain⟨⟨z,hz⟩,hf⟩:=h.any j hj;exact⟨⟨z,(World.cell?_of_block (a:=⟨g,j,none⟩) eg).trans hz⟩,(World.frozen?_of_block (a:=⟨g,j,none⟩) eg).trans hf⟩
 ·obtain⟨c0,c1,c2⟩:=h.got i hi' h';exact⟨(World.cell?_of_block (a:=⟨g,i*3,none⟩) eg).trans c0,(World.cell?_of_block (a:=⟨g,i*3+1,none⟩) eg).trans c1,(World.cell?_of_block (a:=⟨g,i*3+2,none⟩) eg).trans c2⟩
 ·have o:=h.own i hi' h';exact o.same hs (fun b e=>hb b (o.el e).1 (o.el e).2.1)
theorem FO.next{w w':World}{lo hi g n:Nat}{vs:List Value}{fs:List F8}(h:FO w lo hi g n vs fs)(hb:Bw w w'):FO w' lo hi g n vs fs :=
 h.same hb.size (fun b _ h2=>hb.block b (nlt h2 h.top))
theorem FO.wider{w:World}{lo hi lo' hi' g n:Nat}{vs:List Value}{fs:List F8}(h:FO w lo hi g n vs fs)(h1:lo'<=lo)(h2:hi<=hi')(h3:hi'<=w.heap.size):FO w lo' hi' g n vs fs :=
 ⟨ntr h1 h.g0,nlt h.g1 h2,h3,h.len,h.le,h.any,h.got,fun i hi' h'=>(h.own i hi' h').wider h1 h2,h.far,h.apart⟩
theorem FO.fls{w:World}{lo hi g n:Nat}{vs:List Value}{fs:List F8}(h:FO w lo hi g n vs fs):Fw w (some ⟨g,0,none⟩) fs:=fun i hi'=>by
 have h':i<vs.length:=by rw[h.len];exact hi'
 obtain⟨c0,c1,c2⟩:=h.got i hi' h';obtain⟨a,cap,e,_,s⟩:=(h.own i hi' h').smp;rw[e]at c2;have:=h.g1;have:=h.top;exact⟨g,0,a,cap,rfl,by omega,by rw[Nat.zero_add];exact c0,by rw[Nat.zero_add];exact c1,by rw[Nat.zero_add];exact c2,s⟩
def TV(w:World)(lo hi:Nat)(v:Value)(fs:List F8):Prop :=
 (∃g cap vs,v=.slice (some ⟨g,0,none⟩) fs.length cap/\fs.length<=cap/\FO w lo hi g fs.length vs fs)\/(fs=[]/\∃a c,v=.slice a 0 c)
theorem TV.zero(w:World)(lo hi:Nat)(a:Option Addr)(c:Nat):TV w lo hi (.slice a 0 c) []:=.inr ⟨rfl,a,c,rfl⟩
theorem TV.same{w w':World}{lo hi:Nat}{v:Value}{fs:List F8}(h:TV w lo hi v fs)(hs:w.heap.size<=w'.heap.size)(hb:∀b,lo<=b->b<hi->b<w.heap.size->w'.heap[b]?=w.heap[b]?):TV w' lo hi v fs:=by
 rcases h with⟨g,cap,vs,e,hc,f⟩|h
 ·exact .inl ⟨g,cap,vs,e,hc,f.same hs (fun b h1 h2=>hb b h1 h2 (nlt h2 f.top))⟩
 ·exact .inr h
theorem TV.next{w w':World}{lo hi:Nat}{v:Value}{fs:List F8}(h:TV w lo hi v fs)(hb:Bw w w'):TV w' lo hi v fs:=h.same hb.size (fun b _ _ h3=>hb.block b h3)
theorem TV.onlyI{w w':World}{lo hi lo' hi':Nat}{v:Value}{fs:List F8}(h:TV w lo hi v fs)(hb:OnlyI lo' hi' w w')(hd:hi<=lo'\/hi'<=lo):TV w' lo hi v fs:=h.same hb.size (fun b h1 h2 h3=>hb.block b h3 (by omega))
def zvl(w:World)(g o:Nat)(a b c:Value):World:=((w.setCell ⟨g,o,none⟩ a).setCell ⟨g,o+1,none⟩ b).setCell ⟨g,o+2,none⟩ c
section
variable{w:World}
theorem zhc{g o j:Nat}{a b c:Value}(h:j<o\/o+2<j):(zvl w g o a b c).cell? ⟨g,j,none⟩=w.cell? ⟨g,j,none⟩ :=
 (zak (by omega)).trans ((zak (by omega)).trans (zak (by omega)))
section
variable{g o:Nat}
theorem zqa(a b c:Value){z0 z1 z2:Value}(h0:w.cell? ⟨g,o,none⟩=some z0)(h1:w.cell? ⟨g,o+1,none⟩=some z1)(h2:w.cell? ⟨g,o+2,none⟩=some z2):
 (zvl w g o a b c).cell? ⟨g,o,none⟩=some a/\(zvl w g o a b c).cell? ⟨g,o+1,none⟩=some b/\(zvl w g o a b c).cell? ⟨g,o+2,none⟩=some c :=
 ⟨(zak (by omega)).trans ((zak (by omega)).trans (zcq _ h0)),
  (zak (by omega)).trans (zcq _ ((zak (by omega)).trans h1)),
  zcq _ ((zak (by omega)).trans ((zak (by omega)).trans h2))⟩
theorem zsc(a b c:Value)(p:Addr):(zvl w g o a b c).frozen? p=w.frozen? p:=by unfold zvl;simp
theorem zid{a b c:Value}:(zvl w g o a b c).heap.size=w.heap.size:=by unfold zvl;simp
theorem znv{a b c:Value}{k:Nat}(h:k≠g):(zvl w g o a b c).heap[k]?=w.heap[k]?:=by unfold zvl;rw[Below.heap_setCell _ _ _ _ (by exact h),Below.heap_setCell _ _ _ _ (by exact h),Below.heap_setCell _ _ _ _ (by exact h)]
end
theorem FO.push{lo hi g n k:Nat}{vs:List Value}{fs:List F8}(f:FO w lo hi g n vs fs)(ek:k=fs.length)(hk:k<n)(q d:Int){v:Value}{xs:List Int}(hv:IO w lo w.heap.size v xs)(hn:∀b,elB v=some b->hi<=b):
 FO (zvl w g (k*3) (.int .i64 q) (.int .i64 d) v) lo w.heap.size g n (vs ++ [v]) (fs ++ [(q,d,xs)]):=by
 subst ek;obtain⟨⟨z0,h0⟩,_⟩:=f.any (fs.length*3) (by omega);obtain⟨⟨z1,h1⟩,_⟩:=f.any (fs.length*3+1) (by omega);obtain⟨⟨z2,h2⟩,_⟩:=f.any (fs.length*3+2) (by omega);obtain⟨s0,s1,s2⟩:=zqa (.int .i64 q) (.int .i64 d) v h0 h1 h2;have g1:=f.g1;have tp:=f.top;have el:∀i (h':i<vs.length) b,elB vs[i]=some b->b<hi:=fun i h' b e=>((f.own i (by rw[<-f.len];exact h') h').el e).2.1;have at1:∀i (h:i<(vs ++ [v]).length),(∃h':i<vs.length,(vs ++ [v])[i]=vs[i])\/(i=fs.length/\(vs ++ [v])[i]=v):=fun i h=>by
  by_cases e:i<vs.length
  ·exact .inl ⟨e,List.getElem_append_left e⟩
  ·have e2:i=vs.length:=(by simp at h;omega);refine .inr ⟨e2.trans f.len,?_⟩;subst e2;simp
 refine⟨f.g0,by omega,by rw[zid];exact nrf _,by simp[f.len],by simp;omega,fun j hj=>⟨?_,(zsc _ _ _ _).trans (f.any j hj).2⟩,fun i hi' h'=>?_,fun i hi' h'=>?_,fun i h'=>?_,fun i j hi' hj' hne b e=>?_⟩
 ·by_cases e0:j=fs.length*3
  ·subst e0;exact⟨_,s0⟩
  ·by_cases e1:j=fs.length*3+1
   ·subst e1;exact⟨_,s1⟩
   ·by_cases e2:j=fs.length*3+2
    ·subst e2;exact⟨_,s2⟩
    ·obtain⟨z,hz⟩:=(f.any j hj).1;exact⟨z,(zhc (by omega)).trans hz⟩
 ·rcases at1 i h' with⟨k,e⟩|⟨k,e⟩
  ·have k':i<fs.length:=(by rw[<-f.len];exact k);rw[e,List.getElem_append_left k'];obtain⟨c0,c1,c2⟩:=f.got i k' k;exact⟨(zhc (by omega)).trans c0,(zhc (by omega)).trans c1,(zhc (by omega)).trans c2⟩
  ·rw[e];subst k;simp only[List.getElem_append_right (nrf _),Nat.sub_self,List.getElem_cons_zero];exact⟨s0,s1,s2⟩
 ·rcases at1 i h' with⟨k,e⟩|⟨k,e⟩
  ·have k':i<fs.length:=(by rw[<-f.len];exact k);rw[e,List.getElem_append_left k'];exact ((f.own i k' k).wider (nrf _) tp).same (by rw[zid];exact nrf _) (fun b eb=>znv (fun e'=>f.far i k (by rw[eb,e'])))
  ·rw[e];subst k;simp only[List.getElem_append_right (nrf _),Nat.sub_self,List.getElem_cons_zero];exact hv.same (by rw[zid];exact nrf _) (fun b eb=>znv (by have:=hn b eb;omega))
 ·rcases at1 i h' with⟨k,e⟩|⟨k,e⟩
  ·rw[e];exact f.far i k
  ·rw[e];intro e';have:=hn g e';omega
 ·rcases at1 i hi' with⟨k,e1⟩|⟨k,e1⟩
  ·rw[e1]at e;rcases at1 j hj' with⟨k2,e2⟩|⟨k2,e2⟩
   ·rw[e2];exact f.apart i j k k2 hne b e
   ·rw[e2];intro e';have:=hn b e';have:=el i k b e;omega
  ·rw[e1]at e;rcases at1 j hj' with⟨k2,e2⟩|⟨k2,e2⟩
   ·rw[e2];intro e';have:=hn b e;have:=el j k2 b e';omega
   ·omega
end
structure Kn where
 id:Int
 lf:Int
 pl:Int
 k:Int
 wn:Int
 th:Int
 fl:Int
 ac:Int
 la:Int
 og:Int
 st:Int
 fr:Int
 sl:Bool
 xs:List Int
def Kn.cs(c:Kn):List Value:=[.int .i64 c.id,.int .i64 c.lf,.int .i64 c.pl,.int .i64 c.k,.int .i64 c.wn,.int .i64 c.th,.int .i64 c.fl,.int .i64 c.ac,.int .i64 c.la,.int .i64 c.og,.int .i64 c.st,.int .i64 c.fr,.bool c.sl]
theorem Kn.len(c:Kn):c.cs.length=13:=rfl
def Kls(B:Nat)(w:World)(a:Option Addr)(ks:List Kn):Prop :=
 ∀i (h:i<ks.length),∃b off sa sc,a=some ⟨b,off,none⟩/\b<B/\(∀j v,ks[i].cs[j]?=some v->w.cell? ⟨b,off+i*14+j,none⟩=some v)/\w.cell? ⟨b,off+i*14+13,none⟩=some (.slice sa ks[i].xs.length sc)/\ISmp B w sa ks[i].xs
abbrev Kw(w:World)(a:Option Addr)(x:List Kn):Prop:=Kls w.heap.size w a x
theorem Kls.nil(B:Nat)(w:World)(a:Option Addr):Kls B w a []:=fun i h=>by cases h
theorem Kls.mono{B:Nat}{w w':World}{a:Option Addr}{ks:List Kn}(h:Kls B w a ks)(hb:Below B w w'):Kls B w' a ks:=fun i hi=>by obtain⟨b,off,sa,sc,e,hl,c0,c1,s⟩:=h i hi;exact⟨b,off,sa,sc,e,hl,fun j v hv=>bct hb hl (c0 j v hv),bct hb hl c1,s.mono hb⟩
theorem Kls.up{B B':Nat}{w:World}{a:Option Addr}{ks:List Kn}(h:Kls B w a ks)(hb:B<=B'):Kls B' w a ks:=fun i hi=>by obtain⟨b,off,sa,sc,e,hl,c0,c1,s⟩:=h i hi;exact⟨b,off,sa,sc,e,nlt hl hb,c0,c1,s.up hb⟩
theorem Kls.here{w x:World}{a:Option Addr}{ks:List Kn}(h:Kw w a ks)(hb:Bw w x):Kw x a ks:=(h.mono hb).up hb.size
theorem Kls.at{B:Nat}{w:World}{a:Option Addr}{ks:List Kn}(h:Kls B w a ks){w':World}(hb:Below B w w')(i:Nat)(hi:i<ks.length):
 ∃b off sa sc,a=some ⟨b,off,none⟩/\b<B/\(∀j v,ks[i].cs[j]?=some v->w'.cell? ⟨b,off+i*14+j,none⟩=some v)/\w'.cell? ⟨b,off+i*14+13,none⟩=some (.slice sa ks[i].xs.length sc)/\ISmp B w' sa ks[i].xs:=h.mono hb i hi
structure KO (w:World) (lo hi g n:Nat) (vs:List Value) (ks:List Kn):Prop where
 g0:lo<=g
 g1:g<hi
 top:hi<=w.heap.size
 len:vs.length=ks.length
 le:ks.length<=n
 any:∀j,j<n*14->(∃z,w.cell? ⟨g,j,none⟩=some z)/\w.frozen? ⟨g,j,none⟩=false
 got:∀i (h:i<ks.length) (h':i<vs.length),(∀j v,ks[i].cs[j]?=some v->w.cell? ⟨g,i*14+j,none⟩=some v)/\w.cell? ⟨g,i*14+13,none⟩=some vs[i]
 own:∀i (h:i<ks.length) (h':i<vs.length),IO w lo hi vs[i] ks[i].xs
 far:∀i (h':i<vs.length),elB vs[i]≠some g
 apart:∀i j (h:i<vs.length) (h':j<vs.length),i≠j->∀b,elB vs[i]=some b->elB vs[j]≠some b
theorem KO.same{w w':World}{lo hi g n:Nat}{vs:List Value}{ks:List Kn}(h:KO w lo hi g n vs ks)(hs:w.heap.size<=w'.heap.size)(hb:∀b,lo<=b->b<hi->w'.heap[b]?=w.heap[b]?):KO w' lo hi g n vs ks:=by
 have eg:=hb g h.g0 h.g1;refine⟨h.g0,h.g1,ntr h.top hs,h.len,h.le,fun j hj=>?_,fun i hi' h'=>?_,fun i hi' h'=>?_,h.far,h.apart⟩
 ·obtain⟨⟨z,hz⟩,hf⟩:=h.any j hj;exact⟨⟨z,(World.cell?_of_block (a:=⟨g,j,none⟩) eg).trans hz⟩,(World.frozen?_of_block (a:=⟨g,j,none⟩) eg).trans hf⟩
 ·obtain⟨c0,c1⟩:=h.got i hi' h';exact⟨fun j v hv=>(World.cell?_of_block (a:=⟨g,i*14+j,none⟩) eg).trans (c0 j v hv),(World.cell?_of_block (a:=⟨g,i*14+13,none⟩) eg).trans c1⟩
 ·have o:=h.own i hi' h';exact o.same hs (fun b e=>hb b (o.el e).1 (o.el e).2.1)
theorem KO.wider{w:World}{lo hi lo' hi' g n:Nat}{vs:List Value}{ks:List Kn}(h:KO w lo hi g n vs ks)(h1:lo'<=lo)(h2:hi<=hi')(h3:hi'<=w.heap.size):KO w lo' hi' g n vs ks :=
 ⟨ntr h1 h.g0,nlt h.g1 h2,h3,h.len,h.le,h.any,h.got,fun i hi' h'=>(h.own i hi' h').wider h1 h2,h.far,h.apart⟩
theorem KO.kls{w:World}{lo hi g n:Nat}{vs:List Value}{ks:List Kn}(h:KO w lo hi g n vs ks):Kw w (some ⟨g,0,none⟩) ks:=fun i hi'=>by
 have h':i<vs.length:=by rw[h.len];exact hi'
 obtain⟨c0,c1⟩:=h.got i hi' h';obtain⟨a,cap,e,_,s⟩:=(h.own i hi' h').smp;rw[e]at c1;have:=h.g1;have:=h.top;exact⟨g,0,a,cap,rfl,by omega,fun j v hv=>by rw[Nat.zero_add];exact c0 j v hv,by rw[Nat.zero_add];exact c1,s⟩
def KV(w:World)(lo hi:Nat)(v:Value)(ks:List Kn):Prop :=
 (∃g cap vs,v=.slice (some ⟨g,0,none⟩) ks.length cap/\ks.length<=cap/\KO w lo hi g ks.length vs ks)\/(ks=[]/\∃a c,v=.slice a 0 c)
theorem KV.zero(w:World)(lo hi:Nat)(a:Option Addr)(c:Nat):KV w lo hi (.slice a 0 c) []:=.inr ⟨rfl,a,c,rfl⟩
theorem KV.same{w w':World}{lo hi:Nat}{v:Value}{ks:List Kn}(h:KV w lo hi v ks)(hs:w.heap.size<=w'.heap.size)(hb:∀b,lo<=b->b<hi->b<w.heap.size->w'.heap[b]?=w.heap[b]?):KV w' lo hi v ks:=by
 rcases h with⟨g,cap,vs,e,hc,f⟩|h
 ·exact .inl ⟨g,cap,vs,e,hc,f.same hs (fun b h1 h2=>hb b h1 h2 (nlt h2 f.top))⟩
 ·exact .inr h
theorem KV.next{w w':World}{lo hi:Nat}{v:Value}{ks:List Kn}(h:KV w lo hi v ks)(hb:Bw w w'):KV w' lo hi v ks:=h.same hb.size (fun b _ _ h3=>hb.block b h3)
theorem KV.kls{w:World}{lo hi n c:Nat}{a:Option Addr}{ks:List Kn}(h:KV w lo hi (.slice a n c) ks):n=ks.length/\Kw w a ks:=by
 rcases h with⟨g,cap,vs,e,hc,f⟩|⟨rfl,a',c',e⟩
 ·injection e with e1 e2 e3;subst e1 e2;exact⟨rfl,f.kls⟩
 ·injection e with e1 e2 e3;exact⟨e2,Kls.nil _ _ _⟩
theorem zav{g:Nat}:∀(vs:List Value) (o:Nat) (w:World),Only g w (w.setCells g o vs)
 | [],_,w=>Only.refl _ w| v :: r,o,w=>((Only.refl _ w).setCell (p:=⟨g,o,none⟩) rfl v).trans (zav r (o+1) _)
theorem zw8{w:World}{g o:Nat}(vs:List Value)(hc:∀j,j<vs.length->(w.cell? ⟨g,o+j,none⟩).isSome=true):(∀j v,vs[j]?=some v->(w.setCells g o vs).cell? ⟨g,o+j,none⟩=some v)/\(∀i,i<o\/o+vs.length<=i->(w.setCells g o vs).cell? ⟨g,i,none⟩=w.cell? ⟨g,i,none⟩)/\(∀p,(w.setCells g o vs).frozen? p=w.frozen? p)/\Only g w (w.setCells g o vs) :=
 ⟨fun j v hv=>by have hj:=(List.getElem?_eq_some_iff.1 hv).1;rw[World.cell?_setCells_in g vs o w hc j hj];exact congrArg some (List.getElem?_eq_some_iff.1 hv).2,fun i hi=>World.cell?_setCells_out g vs o w ⟨g,i,none⟩ (fun _ _=>hi),fun p=>World.frozen?_setCells g vs o w p,zav vs o w⟩
structure Lay (u:World) (b:Nat) (vs:List Value):Prop where
 cell:∀j v,vs[j]?=some v->u.cell? ⟨b,j,none⟩=some v
 free:∀o:Nat,u.frozen? ⟨b,o,none⟩=false
 lt:b<u.heap.size
theorem Lay.next{u u':World}{b:Nat}{vs:List Value}(h:Lay u b vs)(hb:Bw u u'):Lay u' b vs :=
 ⟨fun j v hv=>bct hb h.lt (h.cell j v hv),fun o=>(hb.frozen (by exact h.lt)).trans (h.free o),nlt h.lt hb.size⟩
theorem Lay.only{u u':World}{b g:Nat}{vs:List Value}(h:Lay u b vs)(o:Only g u u')(hne:b≠g):Lay u' b vs :=
 ⟨fun j v hv=>(o.cell (by exact h.lt) (by exact hne)).trans (h.cell j v hv),fun k=>(o.frozen (by exact h.lt) (by exact hne)).trans (h.free k),nlt h.lt o.size⟩
theorem Lay.put{u:World}{b:Nat}{p q r:List Value}(h:Lay u b (p ++ (q ++ r)))(us:List Value)(e:us.length=q.length):Lay (u.setCells b p.length us) b (p ++ (us ++ r)):=by
 have hc:∀j,j<us.length->(u.cell? ⟨b,p.length+j,none⟩).isSome=true:=fun j hj=>by rw[h.cell (p.length+j) q[j] (by rw[List.getElem?_append_right (by omega),List.getElem?_append_left (by omega)];simp)];rfl
 obtain⟨s1,s2,s3,s4⟩:=zw8 us hc;refine⟨fun j v hv=>?_,fun o=>(s3 _).trans (h.free o),nlt h.lt s4.size⟩;by_cases h1:j<p.length
 ·refine (s2 j (.inl h1)).trans (h.cell j v ?_);rw[List.getElem?_append_left h1]at hv ⊢;exact hv
 ·rw[List.getElem?_append_right (by omega)]at hv;by_cases h2:j-p.length<us.length
  ·rw[List.getElem?_append_left h2]at hv;have:=s1 _ v hv;rwa[show p.length+(j-p.length)=j by omega]at this
  ·rw[List.getElem?_append_right (by omega)]at hv;refine (s2 j (.inr (by omega))).trans (h.cell j v ?_);rw[List.getElem?_append_right (by omega),List.getElem?_append_right (by omega),<-e];exact hv
theorem zbs{u:World}{b:Nat}(cs:List Value)(t:TypeId)(e:b=u.heap.size):Lay (u.alloc (.cells cs.toArray t)) b cs:=by
 subst e;refine⟨fun j v hv=>?_,fun o=>by go_simp,by simp⟩;have hh:(u.alloc (.cells cs.toArray t)).heap[u.heap.size]?=some (.cells cs.toArray t):=by show (u.heap.push _)[u.heap.size]?=_;exact Array.getElem?_push_size
 unfold World.cell?;rw[hh];show (if (none:Option _).isSome then none else cs.toArray[j]?)=some v;rw[if_neg (by simp)];simpa using hv
theorem Lay.alloc{u:World}{b:Nat}{vs:List Value}(h:Lay u b vs)(cs:Array Value)(t:TypeId):Lay (u.alloc (.cells cs t)) b vs:=h.next (by go_grown)
section
variable{u:World}{b:Nat}
theorem Lay.c3{a0 a1 a2:Value}(h:Lay u b [a0,a1,a2]):u.cell? ⟨b,0,none⟩=some a0/\u.cell? ⟨b,1,none⟩=some a1/\u.cell? ⟨b,2,none⟩=some a2:=⟨h.cell 0 _ rfl,h.cell 1 _ rfl,h.cell 2 _ rfl⟩
theorem Lay.c7{a0 a1 a2 a3 a4 a5 a6:Value}(h:Lay u b [a0,a1,a2,a3,a4,a5,a6]):u.cell? ⟨b,0,none⟩=some a0/\u.cell? ⟨b,1,none⟩=some a1/\u.cell? ⟨b,2,none⟩=some a2/\u.cell? ⟨b,3,none⟩=some a3/\u.cell? ⟨b,4,none⟩=some a4/\u.cell? ⟨b,5,none⟩=some a5/\u.cell? ⟨b,6,none⟩=some a6:=⟨h.cell 0 _ rfl,h.cell 1 _ rfl,h.cell 2 _ rfl,h.cell 3 _ rfl,h.cell 4 _ rfl,h.cell 5 _ rfl,h.cell 6 _ rfl⟩
theorem Lay.c10{a0 a1 a2 a3 a4 a5 a6 a7 a8 a9:Value}(h:Lay u b [a0,a1,a2,a3,a4,a5,a6,a7,a8,a9]):u.cell? ⟨b,0,none⟩=some a0/\u.cell? ⟨b,1,none⟩=some a1/\u.cell? ⟨b,2,none⟩=some a2/\u.cell? ⟨b,3,none⟩=some a3/\u.cell? ⟨b,4,none⟩=some a4/\u.cell? ⟨b,5,none⟩=some a5/\u.cell? ⟨b,6,none⟩=some a6/\u.cell? ⟨b,7,none⟩=some a7/\u.cell? ⟨b,8,none⟩=some a8/\u.cell? ⟨b,9,none⟩=some a9:=⟨h.cell 0 _ rfl,h.cell 1 _ rfl,h.cell 2 _ rfl,h.cell 3 _ rfl,h.cell 4 _ rfl,h.cell 5 _ rfl,h.cell 6 _ rfl,h.cell 7 _ rfl,h.cell 8 _ rfl,h.cell 9 _ rfl⟩
theorem Lay.c14{a0 a1 a2 a3 a4 a5 a6 a7 a8 a9 a10 a11 a12 a13:Value}(h:Lay u b [a0,a1,a2,a3,a4,a5,a6,a7,a8,a9,a10,a11,a12,a13]):u.cell? ⟨b,0,none⟩=some a0/\u.cell? ⟨b,1,none⟩=some a1/\u.cell? ⟨b,2,none⟩=some a2/\u.cell? ⟨b,3,none⟩=some a3/\u.cell? ⟨b,4,none⟩=some a4/\u.cell? ⟨b,5,none⟩=some a5/\u.cell? ⟨b,6,none⟩=some a6/\u.cell? ⟨b,7,none⟩=some a7/\u.cell? ⟨b,8,none⟩=some a8/\u.cell? ⟨b,9,none⟩=some a9/\u.cell? ⟨b,10,none⟩=some a10/\u.cell? ⟨b,11,none⟩=some a11/\u.cell? ⟨b,12,none⟩=some a12/\u.cell? ⟨b,13,none⟩=some a13:=⟨h.cell 0 _ rfl,h.cell 1 _ rfl,h.cell 2 _ rfl,h.cell 3 _ rfl,h.cell 4 _ rfl,h.cell 5 _ rfl,h.cell 6 _ rfl,h.cell 7 _ rfl,h.cell 8 _ rfl,h.cell 9 _ rfl,h.cell 10 _ rfl,h.cell 11 _ rfl,h.cell 12 _ rfl,h.cell 13 _ rfl⟩
end
theorem ze1{u u':World}{b:Nat}{vs:List Value}(h:Hid (Lay u b vs))(hb:Bw u u'):Hid (Lay u' b vs):=h.out.next hb
theorem z1p(w:World)(t:TypeId)(xs zs:List Value):∃v,v=(w.alloc (.cells xs.toArray t)).alloc (.cells zs.toArray t)/\Bw w v/\Lay v w.heap.size xs/\Lay v (w.heap.size+1) zs :=
 ⟨_,rfl,by go_grown,(zbs xs _ rfl).alloc _ _,zbs zs _ (by simp)⟩
section
variable{z:World}{b:Nat}{o0 o1 o2 o3 o4 o5 o6:Value}
theorem st7(L:Lay z b [o0,o1,o2,o3,o4,o5,o6])(c0 c1 c2 c3 c4 c5 c6:Value):∃u,(((((((z.setCell ⟨b,0,none⟩ c0).setCell ⟨b,1,none⟩ c1).setCell ⟨b,2,none⟩ c2).setCell ⟨b,3,none⟩ c3).setCell ⟨b,4,none⟩ c4).setCell ⟨b,5,none⟩ c5).setCell ⟨b,6,none⟩ c6)=u/\Only b z u/\Lay u b [c0,c1,c2,c3,c4,c5,c6] :=
 ⟨z.setCells b 0 [c0,c1,c2,c3,c4,c5,c6],rfl,zav _ _ _,L.put (p:=[]) (q:=[o0,o1,o2,o3,o4,o5,o6]) (r:=[]) [c0,c1,c2,c3,c4,c5,c6] rfl⟩
theorem stE(L:Lay z b [o0,o1,o2,o3,o4,o5,o6])(n:Int)(a0:Option Addr)(k0 c0:Nat)(a1:Option Addr)(k1 c1:Nat)(a2:Option Addr)(k2 c2:Nat)(a3:Option Addr)(k3 c3:Nat)(a4:Option Addr)(k4 c4:Nat)(x:Int):∃u,(((((((z.setCell ⟨b,0,none⟩ (.int .i64 n)).setCell ⟨b,1,none⟩ (.slice a0 k0 c0)).setCell ⟨b,2,none⟩ (.slice a1 k1 c1)).setCell ⟨b,3,none⟩ (.slice a2 k2 c2)).setCell ⟨b,4,none⟩ (.slice a3 k3 c3)).setCell ⟨b,5,none⟩ (.slice a4 k4 c4)).setCell ⟨b,6,none⟩ (.int .i64 x))=u/\Only b z u/\Lay u b [(.int .i64 n),(.slice a0 k0 c0),(.slice a1 k1 c1),(.slice a2 k2 c2),(.slice a3 k3 c3),(.slice a4 k4 c4),(.int .i64 x)] :=st7 L _ _ _ _ _ _ _
end
theorem new1(u:World)(t:TypeId)(xs:List Value):∃x,x=u.alloc (.cells xs.toArray t)/\Lay x u.heap.size xs/\Bw u x:=⟨_,rfl,zbs xs _ rfl,newB u _⟩
theorem newE(u:World)(t:TypeId)(n:Int)(a0:Option Addr)(k0 c0:Nat)(a1:Option Addr)(k1 c1:Nat)(a2:Option Addr)(k2 c2:Nat)(a3:Option Addr)(k3 c3:Nat)(a4:Option Addr)(k4 c4:Nat)(x:Int):∃v,v=u.alloc (.cells #[.int .i64 n,.slice a0 k0 c0,.slice a1 k1 c1,.slice a2 k2 c2,.slice a3 k3 c3,.slice a4 k4 c4,.int .i64 x] t)/\Lay v u.heap.size [.int .i64 n,.slice a0 k0 c0,.slice a1 k1 c1,.slice a2 k2 c2,.slice a3 k3 c3,.slice a4 k4 c4,.int .i64 x]/\Bw u v:=new1 u t _
theorem preZ(w:World)(t:TypeId)(xs:List Value):∃v,v=(w.alloc (.cells xs.toArray t)).alloc (.cells [.int .i64 0,.slice none 0 0,.slice none 0 0,.slice none 0 0,.slice none 0 0,.slice none 0 0,.int .i64 0].toArray t)/\Bw w v/\Lay v w.heap.size xs/\Lay v (w.heap.size+1) [.int .i64 0,.slice none 0 0,.slice none 0 0,.slice none 0 0,.slice none 0 0,.slice none 0 0,.int .i64 0]:=z1p w t xs _
theorem preE(w:World)(t:TypeId)(n:Int)(a0:Option Addr)(k0 c0:Nat)(a1:Option Addr)(k1 c1:Nat)(a2:Option Addr)(k2 c2:Nat)(a3:Option Addr)(k3 c3:Nat)(a4:Option Addr)(k4 c4:Nat)(x:Int):∃v,v=(w.alloc (.cells #[.int .i64 n,.slice a0 k0 c0,.slice a1 k1 c1,.slice a2 k2 c2,.slice a3 k3 c3,.slice a4 k4 c4,.int .i64 x] t)).alloc (.cells #[.int .i64 0,.slice none 0 0,.slice none 0 0,.slice none 0 0,.slice none 0 0,.slice none 0 0,.int .i64 0] t)/\Bw w v/\Lay v w.heap.size [.int .i64 n,.slice a0 k0 c0,.slice a1 k1 c1,.slice a2 k2 c2,.slice a3 k3 c3,.slice a4 k4 c4,.int .i64 x]/\Lay v (w.heap.size+1) [.int .i64 0,.slice none 0 0,.slice none 0 0,.slice none 0 0,.slice none 0 0,.slice none 0 0,.int .i64 0]:=preZ w t _
theorem zfb{w:World}{a b:Option Addr}(cap cap':Nat){xs ys:List Int}(ha:Iw w a xs)(hb:Iw w b ys)(hn:xs.length<=4611686018427387904):
 Calls Tryz.prog 20 #[.slice a xs.length cap,.slice b ys.length cap'] w fun e w'=>e=.returned (.bool (decide (xs=ys)))/\Bw w w':=by
 by_cases hl:xs.length=ys.length
 ·rw[hl];have HL:Hid (xs.length=ys.length):=hl;clear hl;go_enter Tryz.func20,Tryz.ntmps20;go_wp2;go_loopw [5] (fun i wr=>∃k:Nat,i=.int .i64 k/\k<=ys.length/\xs.take k=ys.take k/\Bw w wr) (fun i _=>ys.length-(intOf i).toNat);case atStart=>exact⟨0,rfl,by omega,by simp,by go_grown⟩
  case round =>
   obtain⟨k,rfl,hk,ht,hbw⟩:=hrel;by_cases hlt2:k<ys.length
   ·have hlt:k<xs.length:=(by have:=HL.out;omega);obtain⟨b1,o1,rfl,hb1,c0⟩:=ha.at hbw k hlt;obtain⟨b2,o2,rfl,hb2,d0⟩:=hb.at hbw k hlt2;have hlt':(k:Int)<(ys.length:Int):=(by omega);have hnn:=hn;have hly:=HL.out;rw[hly]at hnn;clear hly;have hk0:(0:Int)<=(k:Int):=(by omega);obtain⟨p,hp⟩:∃p,xs[k]=p:=⟨_,rfl⟩;obtain⟨q,hq⟩:∃q,ys[k]=q:=⟨_,rfl⟩;rw[hp]at c0;rw[hq]at d0;have HP:Hid (xs[k]=p):=hp;have HQ:Hid (ys[k]=q):=hq;clear hp hq;by_cases hpq:p=q
    ·subst hpq;have HT:Hid (xs.take (k+1)=ys.take (k+1)):=(by show xs.take (k+1)=ys.take (k+1);rw[List.take_succ_eq_append_getElem hlt,List.take_succ_eq_append_getElem hlt2,ht,HP.out,HQ.out]);go_wp2;go_quiet (fail);go_wp2;go_roundw;case rel=>exact⟨k+1,by go_num,by omega,HT.out,zan hbw _⟩
     case measure=>simp[intOf]<;>omega
    ·have hpq':(p == q)=false:=(by simp[hpq]);go_wp2;go_quiet (fail);go_wp2;go_ret;exact⟨ret_b (decide_eq_false (fun e=>hpq (by rw[<-HP.out,<-HQ.out];subst e;rfl))).symm,zan hbw _⟩
   ·have e:k=ys.length:=(by omega);subst e;have hxy:xs=ys:=(by rw[List.take_length,<-HL.out,List.take_length]at ht;exact ht);go_wp2;go_ret;exact⟨ret_b (decide_eq_true hxy).symm,hbw⟩
 ·have hlb:((xs.length:Int) == (ys.length:Int))=false:=(by simp;omega);rw[decide_eq_false (fun e=>hl (by rw[e]))];go_enter Tryz.func20,Tryz.ntmps20;go_wp2;go_ret;exact⟨rfl,by go_grown⟩
def inB(lo x hi:Int):Bool:=decide (lo<=x) && decide (x<=hi)
def sg(n:Int):Bool:=inB 1 n 1500
def zlz(xs:List Int):Bool:=xs.all sg
theorem sg_bad{xs:List Int}{k:Nat}(h:k<xs.length)(hs:sg xs[k]=false):zlz xs=false:=by unfold zlz;rw[List.all_eq_false];exact⟨xs[k],List.getElem_mem h,by rw[hs];simp⟩
theorem sg_all{xs:List Int}(h:∀k (hk:k<xs.length),sg xs[k]=true):zlz xs=true:=by unfold zlz;rw[List.all_eq_true];intro x hx;obtain⟨k,hk,rfl⟩:=List.mem_iff_getElem.1 hx;exact h k hk
end Go.Proofs.YthiojkjcmhojoaaGreat
