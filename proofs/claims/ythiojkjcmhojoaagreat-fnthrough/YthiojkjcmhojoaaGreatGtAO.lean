import Derived.Test.YthiojkjcmhojoaaGreatGtAG
import Derived.Lib.SmallJoins
import Derived.Test.YthiojkjcmhojoaaGreatGtAD
namespace Go.Proofs.YthiojkjcmhojoaaGreat
set_option maxHeartbeats 4000000
open Go.ChangeShapes Go.WideShapes Go.ChangeAt Go.RowKit
set_option maxRecDepth 100000
set_option linter.all false
section
variable {H:Type} {enc:TypeId × Value->H} {P:Program} {w:World} {sp:Nat->Bool} {held:Bool}
end
theorem zfn{w:World}{g:Nat}{a b c d:Value}(h0:w.cell? ⟨g,0,none⟩=some a:=by go_simp)(h1:w.cell? ⟨g,1,none⟩=some b:=by go_simp)(h2:w.cell? ⟨g,2,none⟩=some c:=by go_simp)(h3:w.cell? ⟨g,3,none⟩=some d:=by go_simp):∀j v,[a,b,c,d][j]?=some v->w.cell? ⟨g,j,none⟩=some v:=by
 intro j v hv;match j,hv with
 | 0,hv=>obtain rfl:a=v:=by simpa using hv
         exact h0
 | 1,hv=>obtain rfl:b=v:=by simpa using hv
         exact h1
 | 2,hv=>obtain rfl:c=v:=by simpa using hv
         exact h2
 | 3,hv=>obtain rfl:d=v:=by simpa using hv
         exact h3
theorem zbh{w:World}{a:Addr}{u:Value}(v:Value)(h:w.cell? a=some u):(w.setCell a v).cell? a=some v:=World.cell?_setCell_same' w a v (by rw[h];rfl)
theorem zab{w:World}{b i j:Nat}{v:Value}(h:i≠j):(w.setCell ⟨b,i,none⟩ v).cell? ⟨b,j,none⟩=w.cell? ⟨b,j,none⟩:=by apply World.cell?_setCell_other;intro e;injection e with _ e _;exact h e
theorem zbm{w w':World}(h:Bw w w'):∀b o:Nat,b<w.heap.size->w'.cell? ⟨b,o,none⟩=w.cell? ⟨b,o,none⟩:=fun b o hb=>h.cell (by exact hb)
theorem zb4{w w':World}(h:Bw w w'):∀b o:Nat,b<w.heap.size->w'.frozen? ⟨b,o,none⟩=w.frozen? ⟨b,o,none⟩:=fun b o hb=>h.frozen (by exact hb)
theorem zaa{w x y:World}(h:Bw w x)(k:Bw x y):Bw w y:=h.trans (k.mono h.size)
section
variable {H:Type} {enc:TypeId × Value->H} {P:Program} {w:World} {sp:Nat->Bool} {held:Bool}
end
theorem zao{w:World}{g:Nat}{c0 c1 c2 c3 c4 c5 c6 c7 c8 c9:Value}(h0:w.cell? ⟨g,0,none⟩=some c0:=by go_simp)(h1:w.cell? ⟨g,1,none⟩=some c1:=by go_simp)(h2:w.cell? ⟨g,2,none⟩=some c2:=by go_simp)(h3:w.cell? ⟨g,3,none⟩=some c3:=by go_simp)(h4:w.cell? ⟨g,4,none⟩=some c4:=by go_simp)(h5:w.cell? ⟨g,5,none⟩=some c5:=by go_simp)(h6:w.cell? ⟨g,6,none⟩=some c6:=by go_simp)(h7:w.cell? ⟨g,7,none⟩=some c7:=by go_simp)(h8:w.cell? ⟨g,8,none⟩=some c8:=by go_simp)(h9:w.cell? ⟨g,9,none⟩=some c9:=by go_simp):∀j v,[c0,c1,c2,c3,c4,c5,c6,c7,c8,c9][j]?=some v->w.cell? ⟨g,j,none⟩=some v:=by
 intro j v hv;match j,hv with
 | 0,hv=>obtain rfl:c0=v:=by simpa using hv
         exact h0
 | 1,hv=>obtain rfl:c1=v:=by simpa using hv
         exact h1
 | 2,hv=>obtain rfl:c2=v:=by simpa using hv
         exact h2
 | 3,hv=>obtain rfl:c3=v:=by simpa using hv
         exact h3
 | 4,hv=>obtain rfl:c4=v:=by simpa using hv
         exact h4
 | 5,hv=>obtain rfl:c5=v:=by simpa using hv
         exact h5
 | 6,hv=>obtain rfl:c6=v:=by simpa using hv
         exact h6
 | 7,hv=>obtain rfl:c7=v:=by simpa using hv
         exact h7
 | 8,hv=>obtain rfl:c8=v:=by simpa using hv
         exact h8
 | 9,hv=>obtain rfl:c9=v:=by simpa using hv
         exact h9
theorem zjz{w:World}{g:Nat}{u0 u1 u2 u3 u4 u5 u6 u7 u8 u9:Value}(c0 c1 c2 c3 c4 c5 c6 c7 c8 c9:Value)(h0:w.cell? ⟨g,0,none⟩=some u0)(h1:w.cell? ⟨g,1,none⟩=some u1)(h2:w.cell? ⟨g,2,none⟩=some u2)(h3:w.cell? ⟨g,3,none⟩=some u3)(h4:w.cell? ⟨g,4,none⟩=some u4)(h5:w.cell? ⟨g,5,none⟩=some u5)(h6:w.cell? ⟨g,6,none⟩=some u6)(h7:w.cell? ⟨g,7,none⟩=some u7)(h8:w.cell? ⟨g,8,none⟩=some u8)(h9:w.cell? ⟨g,9,none⟩=some u9):
 ∃w4,w4=((((((((((w.setCell ⟨g,0,none⟩ c0).setCell ⟨g,1,none⟩ c1).setCell ⟨g,2,none⟩ c2).setCell ⟨g,3,none⟩ c3).setCell ⟨g,4,none⟩ c4).setCell ⟨g,5,none⟩ c5).setCell ⟨g,6,none⟩ c6).setCell ⟨g,7,none⟩ c7).setCell ⟨g,8,none⟩ c8).setCell ⟨g,9,none⟩ c9)/\(∀j v,[c0,c1,c2,c3,c4,c5,c6,c7,c8,c9][j]?=some v->w4.cell? ⟨g,j,none⟩=some v) /\
  (∀k o:Nat,k≠g->w4.cell? ⟨k,o,none⟩=w.cell? ⟨k,o,none⟩)/\(∀k o:Nat,w4.frozen? ⟨k,o,none⟩=w.frozen? ⟨k,o,none⟩)/\w4.heap.size=w.heap.size/\(∀B,B<=g->Below B w w4):=by
 refine⟨_,rfl,?_,?_,fun k o=>by simp,by simp,?_⟩
 ·refine zao ?_ ?_ ?_ ?_ ?_ ?_ ?_ ?_ ?_ ?_
  ·exact ((zab (by decide)).trans ((zab (by decide)).trans ((zab (by decide)).trans ((zab (by decide)).trans ((zab (by decide)).trans ((zab (by decide)).trans ((zab (by decide)).trans ((zab (by decide)).trans ((zab (by decide)).trans (zbh _ h0))))))))))
  ·exact ((zab (by decide)).trans ((zab (by decide)).trans ((zab (by decide)).trans ((zab (by decide)).trans ((zab (by decide)).trans ((zab (by decide)).trans ((zab (by decide)).trans ((zab (by decide)).trans (zbh _ ((zab (by decide)).trans h1))))))))))
  ·exact ((zab (by decide)).trans ((zab (by decide)).trans ((zab (by decide)).trans ((zab (by decide)).trans ((zab (by decide)).trans ((zab (by decide)).trans ((zab (by decide)).trans (zbh _ ((zab (by decide)).trans ((zab (by decide)).trans h2))))))))))
  ·exact ((zab (by decide)).trans ((zab (by decide)).trans ((zab (by decide)).trans ((zab (by decide)).trans ((zab (by decide)).trans ((zab (by decide)).trans (zbh _ ((zab (by decide)).trans ((zab (by decide)).trans ((zab (by decide)).trans h3))))))))))
  ·exact ((zab (by decide)).trans ((zab (by decide)).trans ((zab (by decide)).trans ((zab (by decide)).trans ((zab (by decide)).trans (zbh _ ((zab (by decide)).trans ((zab (by decide)).trans ((zab (by decide)).trans ((zab (by decide)).trans h4))))))))))
  ·exact ((zab (by decide)).trans ((zab (by decide)).trans ((zab (by decide)).trans ((zab (by decide)).trans (zbh _ ((zab (by decide)).trans ((zab (by decide)).trans ((zab (by decide)).trans ((zab (by decide)).trans ((zab (by decide)).trans h5))))))))))
  ·exact ((zab (by decide)).trans ((zab (by decide)).trans ((zab (by decide)).trans (zbh _ ((zab (by decide)).trans ((zab (by decide)).trans ((zab (by decide)).trans ((zab (by decide)).trans ((zab (by decide)).trans ((zab (by decide)).trans h6))))))))))
  ·exact ((zab (by decide)).trans ((zab (by decide)).trans (zbh _ ((zab (by decide)).trans ((zab (by decide)).trans ((zab (by decide)).trans ((zab (by decide)).trans ((zab (by decide)).trans ((zab (by decide)).trans ((zab (by decide)).trans h7))))))))))
  ·exact ((zab (by decide)).trans (zbh _ ((zab (by decide)).trans ((zab (by decide)).trans ((zab (by decide)).trans ((zab (by decide)).trans ((zab (by decide)).trans ((zab (by decide)).trans ((zab (by decide)).trans ((zab (by decide)).trans h8))))))))))
  ·exact (zbh _ ((zab (by decide)).trans ((zab (by decide)).trans ((zab (by decide)).trans ((zab (by decide)).trans ((zab (by decide)).trans ((zab (by decide)).trans ((zab (by decide)).trans ((zab (by decide)).trans ((zab (by decide)).trans h9))))))))))
 ·intro k o hk;have far:∀(x:World) (i:Nat) (v:Value),(x.setCell ⟨g,i,none⟩ v).cell? ⟨k,o,none⟩=x.cell? ⟨k,o,none⟩:=fun x i v=>World.cell?_setCell_other _ _ _ _ (fun e=>hk (by injection e with e;exact e.symm));rw[far,far,far,far,far,far,far,far,far,far]
 ·intro B hB;exact ((((((((((brf B w).setCell (by exact hB) _).setCell (by exact hB) _).setCell (by exact hB) _).setCell (by exact hB) _).setCell (by exact hB) _).setCell (by exact hB) _).setCell (by exact hB) _).setCell (by exact hB) _).setCell (by exact hB) _).setCell (by exact hB) _
abbrev Q4:=Int × Int × Int × Int
def Quad(B:Nat)(w:World)(a:Option Addr)(xs:List Q4):Prop :=
 ∀i (h:i<xs.length),∃b off,a=some ⟨b,off,none⟩/\b<B/\w.cell? ⟨b,off+i*4,none⟩=some (.int .i64 xs[i].1)/\w.cell? ⟨b,off+i*4+1,none⟩=some (.int .i64 xs[i].2.1)/\w.cell? ⟨b,off+i*4+2,none⟩=some (.int .i64 xs[i].2.2.1)/\w.cell? ⟨b,off+i*4+3,none⟩=some (.int .i64 xs[i].2.2.2)
abbrev Qw(w:World)(a:Option Addr)(x:List Q4):Prop:=Quad w.heap.size w a x
theorem Quad.nil(B:Nat)(w:World)(a:Option Addr):Quad B w a []:=fun i h=>by cases h
theorem Quad.at{B:Nat}{w:World}{a:Option Addr}{xs:List Q4}(h:Quad B w a xs){w':World}(hb:Below B w w')(k:Nat)(hk:k<xs.length):
 ∃b off,a=some ⟨b,off,none⟩/\b<B/\w'.cell? ⟨b,off+k*4,none⟩=some (.int .i64 xs[k].1)/\w'.cell? ⟨b,off+k*4+1,none⟩=some (.int .i64 xs[k].2.1)/\w'.cell? ⟨b,off+k*4+2,none⟩=some (.int .i64 xs[k].2.2.1)/\w'.cell? ⟨b,off+k*4+3,none⟩=some (.int .i64 xs[k].2.2.2):=by
 obtain⟨b,off,e,hlt,c0,c1,c2,c3⟩:=h k hk;exact⟨b,off,e,hlt,bct hb hlt c0,bct hb hlt c1,bct hb hlt c2,bct hb hlt c3⟩
theorem Quad.mono{B:Nat}{w w':World}{a:Option Addr}{xs:List Q4}(h:Quad B w a xs)(hb:Below B w w'):Quad B w' a xs:=fun i hi=>h.at hb i hi
theorem Quad.up{B B':Nat}{w:World}{a:Option Addr}{xs:List Q4}(h:Quad B w a xs)(hb:B<=B'):Quad B' w a xs:=fun i hi=>by obtain⟨b,off,e,hl,c⟩:=h i hi;exact⟨b,off,e,nlt hl hb,c⟩
theorem Quad.here{w x:World}{a:Option Addr}{xs:List Q4}(h:Qw w a xs)(hb:Bw w x):Qw x a xs:=(h.mono hb).up hb.size
theorem Quad.cells{B b off:Nat}{w:World}{xs:List Q4}(h:Quad B w (some ⟨b,off,none⟩) xs){w':World}(hb:Below B w w')(k:Nat)(hk:k<xs.length):
 w'.cell? ⟨b,off+k*4,none⟩=some (.int .i64 xs[k].1)/\w'.cell? ⟨b,off+k*4+1,none⟩=some (.int .i64 xs[k].2.1)/\w'.cell? ⟨b,off+k*4+2,none⟩=some (.int .i64 xs[k].2.2.1)/\w'.cell? ⟨b,off+k*4+3,none⟩=some (.int .i64 xs[k].2.2.2):=by
 obtain⟨b',off',e,_,c⟩:=h.at hb k hk;cases e
 exact c
structure QFill (w:World) (g n:Nat) (xs:List Q4) (k:Nat):Prop where
 any:∀j,j<n*4->(∃z:Int,w.cell? ⟨g,j,none⟩=some (.int .i64 z))/\w.frozen? ⟨g,j,none⟩=false
 got:∀i (h:i<xs.length),i<k->w.cell? ⟨g,i*4,none⟩=some (.int .i64 xs[i].1)/\w.cell? ⟨g,i*4+1,none⟩=some (.int .i64 xs[i].2.1)/\w.cell? ⟨g,i*4+2,none⟩=some (.int .i64 xs[i].2.2.1)/\w.cell? ⟨g,i*4+3,none⟩=some (.int .i64 xs[i].2.2.2)
theorem QFill.mono{w w':World}{g n k:Nat}{xs:List Q4}(f:QFill w g n xs k)(h:Bw w w')(hg:g<w.heap.size):QFill w' g n xs k where
 any:=fun j hj=>by obtain⟨⟨z,hz⟩,hf⟩:=f.any j hj;exact⟨⟨z,bct h hg hz⟩,(h.frozen (by exact hg)).trans hf⟩
 got:=fun i hi hk=>by obtain⟨c0,c1,c2,c3⟩:=f.got i hi hk;exact⟨bct h hg c0,bct h hg c1,bct h hg c2,bct h hg c3⟩
theorem QFill.quad{w:World}{g n B:Nat}{xs:List Q4}(f:QFill w g n xs xs.length)(h:g<B):Quad B w (some ⟨g,0,none⟩) xs:=fun i hi=>by obtain⟨c0,c1,c2,c3⟩:=f.got i hi hi;exact⟨g,0,rfl,h,by rw[Nat.zero_add];exact c0,by rw[Nat.zero_add];exact c1,by rw[Nat.zero_add];exact c2,by rw[Nat.zero_add];exact c3⟩
def zzg(w:World)(g o:Nat)(x:Q4):World:=(((w.setCell ⟨g,o,none⟩ (.int .i64 x.1)).setCell ⟨g,o+1,none⟩ (.int .i64 x.2.1)).setCell ⟨g,o+2,none⟩ (.int .i64 x.2.2.1)).setCell ⟨g,o+3,none⟩ (.int .i64 x.2.2.2)
theorem zw3{w:World}{g o:Nat}(x:Q4){z0 z1 z2 z3:Value}(h0:w.cell? ⟨g,o,none⟩=some z0)(h1:w.cell? ⟨g,o+1,none⟩=some z1)(h2:w.cell? ⟨g,o+2,none⟩=some z2)(h3:w.cell? ⟨g,o+3,none⟩=some z3):
 (zzg w g o x).cell? ⟨g,o,none⟩=some (.int .i64 x.1)/\(zzg w g o x).cell? ⟨g,o+1,none⟩=some (.int .i64 x.2.1)/\(zzg w g o x).cell? ⟨g,o+2,none⟩=some (.int .i64 x.2.2.1)/\(zzg w g o x).cell? ⟨g,o+3,none⟩=some (.int .i64 x.2.2.2) :=
 ⟨(zak (by omega)).trans ((zak (by omega)).trans ((zak (by omega)).trans (zcq _ h0))),
  (zak (by omega)).trans ((zak (by omega)).trans (zcq _ ((zak (by omega)).trans h1))),
  (zak (by omega)).trans (zcq _ ((zak (by omega)).trans ((zak (by omega)).trans h2))),
  zcq _ ((zak (by omega)).trans ((zak (by omega)).trans ((zak (by omega)).trans h3)))⟩
theorem zp1{w:World}{g o:Nat}{x:Q4}{w0:World}(h:Only g w0 w):Only g w0 (zzg w g o x):=(((h.setCell rfl _).setCell rfl _).setCell rfl _).setCell rfl _
def za5(xs:List Q4):List Value:=xs.flatMap fun x=>[.int .i64 x.1,.int .i64 x.2.1,.int .i64 x.2.2.1,.int .i64 x.2.2.2]
theorem zgw(xs ys:List Q4):za5 (xs ++ ys)=za5 xs ++ za5 ys:=List.flatMap_append
theorem zcv(xs:List Q4):(za5 xs).length=xs.length*4:=by
 induction xs with
 | nil=>rfl| cons x xs ih =>show (za5 xs).length+1+1+1+1=_;rw[ih,List.length_cons];omega
theorem zia(xs:List Q4):∀i (h:i<xs.length),(za5 xs)[i*4]?=some (.int .i64 xs[i].1)/\(za5 xs)[i*4+1]?=some (.int .i64 xs[i].2.1)/\(za5 xs)[i*4+2]?=some (.int .i64 xs[i].2.2.1)/\(za5 xs)[i*4+3]?=some (.int .i64 xs[i].2.2.2):=by
 induction xs with
 | nil=>intro i h;cases h
 | cons x xs ih =>
  intro i h;cases i with
  | zero=>exact⟨rfl,rfl,rfl,rfl⟩| succ j =>have hj:j<xs.length:=(by simpa using h);obtain⟨h0,h1,h2,h3⟩:=ih j hj;have e:∀d,(za5 (x :: xs))[(j+1)*4+d]?=(za5 xs)[j*4+d]?:=(by intro d;show (Value.int .i64 x.1 :: Value.int .i64 x.2.1 :: Value.int .i64 x.2.2.1 :: Value.int .i64 x.2.2.2 :: za5 xs)[(j+1)*4+d]?=_;rw[show (j+1)*4+d=j*4+d+1+1+1+1 by omega];simp);have e0:=e 0;rw[Nat.add_zero,Nat.add_zero]at e0;rw[e0,e 1,e 2,e 3];exact⟨h0,h1,h2,h3⟩
theorem zp2{xs:List Q4}{u:Value}(h:u ∈ za5 xs):∃z,u=.int .i64 z:=by
 obtain⟨x,_,hx⟩:=List.mem_flatMap.1 h;simp only[List.mem_cons,List.not_mem_nil,or_false]at hx;rcases hx with rfl|rfl|rfl|rfl
 ·exact⟨_,rfl⟩
 ·exact⟨_,rfl⟩
 ·exact⟨_,rfl⟩
 ·exact⟨_,rfl⟩
theorem zc6(xs:List Q4):∀u ∈ za5 xs,u.oneCell'=true:=fun u hu=>by obtain⟨z,rfl⟩:=zp2 hu;rfl
theorem zp3{w:World}{base:Nat}{v:Value}{t:TypeId}{xs:List Q4}(h:w.ownsRow base t 4 v xs.length (za5 xs))(hn:v≠.slice none 0 0):
 ∃g cap,v=.slice (some ⟨g,0,none⟩) xs.length cap/\base<=g/\g<w.heap.size/\QFill w g xs.length xs xs.length/\xs.length<=cap:=by
 rcases h.2 with⟨e,_⟩|⟨g,cap,cur,rfl,hb,hg,hnc,_⟩
 ·exact absurd e hn
 ·refine⟨g,cap,rfl,hb,(h.lt g rfl).2,⟨fun j hj=>⟨?_,h.frozenAt j⟩,fun i hi _=>?_⟩,hnc⟩
  ·have hc:=h.cellAt j hj;obtain⟨u,hu⟩:∃u,(za5 xs)[j]?=some u:=⟨_,List.getElem?_eq_getElem (by rw[zcv];exact hj)⟩;obtain⟨z,rfl⟩:=zp2 (List.mem_of_getElem? hu);exact⟨z,hc.trans hu⟩
  ·obtain⟨h0,h1,h2,h3⟩:=zia xs i hi;exact⟨(h.cellAt _ (by omega)).trans h0,(h.cellAt _ (by omega)).trans h1,(h.cellAt _ (by omega)).trans h2,(h.cellAt _ (by omega)).trans h3⟩
section
variable {H:Type} {enc:TypeId × Value->H} {P:Program} {w:World} {sp:Nat->Bool} {held:Bool}
end
theorem zlo{f g:Bool}(h:f=g):Ending.returned (.bool f)=.returned (.bool g):=by rw[h]
def QV(w:World)(lo:Nat)(v:Value)(xs:List Q4):Prop :=
 (∃g cap,v=.slice (some ⟨g,0,none⟩) xs.length cap/\lo<=g/\g<w.heap.size/\QFill w g xs.length xs xs.length/\xs.length<=cap)\/((∃a,v=.slice a 0 0)/\xs=[])
theorem QV.zero(w:World)(lo:Nat)(a:Option Addr):QV w lo (.slice a 0 0) []:=.inr ⟨⟨a,rfl⟩,rfl⟩
section
variable{w:World}{lo:Nat}{v:Value}{xs:List Q4}
theorem QV.room(h:QV w lo v xs):
 (∃g cap,v=.slice (some ⟨g,0,none⟩) xs.length (cap+1)/\lo<=g/\g<w.heap.size/\QFill w g xs.length xs xs.length/\xs.length<=cap+1)\/((∃a,v=.slice a 0 0)/\xs=[]):=by
 rcases h with⟨g,cap,e,h1,h2,f,hc⟩|h
 ·cases cap with
  | zero =>have hy:xs=[]:=List.eq_nil_of_length_eq_zero (by omega);subst hy;exact .inr ⟨⟨_,e⟩,rfl⟩| succ cap=>exact .inl ⟨g,cap,e,h1,h2,f,hc⟩
 ·exact .inr h
theorem QV.own(h:QV w lo v xs){g:Nat}(hg:zhj v=some g):lo<=g/\g<w.heap.size:=by
 rcases h.room with⟨g',cap,rfl,h1,h2,_⟩|⟨⟨a,rfl⟩,_⟩
 ·injection hg with hg;have e:g'=g:=hg;subst e;exact⟨h1,h2⟩
 ·rw[zwv]at hg;cases hg
end
theorem QV.next{w w':World}{lo:Nat}{v:Value}{xs:List Q4}(h:QV w lo v xs)(hb:Bw w w'):QV w' lo v xs:=by
 rcases h with⟨g,cap,rfl,h1,h2,f,hc⟩|h
 ·exact .inl ⟨g,cap,rfl,h1,nlt h2 hb.size,f.mono hb h2,hc⟩
 ·exact .inr h
theorem QV.lower{w:World}{lo lo':Nat}{v:Value}{xs:List Q4}(h:QV w lo v xs)(hl:lo'<=lo):QV w lo' v xs:=by
 rcases h with⟨g,cap,rfl,h1,h2,f,hc⟩|h
 ·exact .inl ⟨g,cap,rfl,ntr hl h1,h2,f,hc⟩
 ·exact .inr h
theorem QV.quad{w:World}{lo n c:Nat}{a:Option Addr}{xs:List Q4}(h:QV w lo (.slice a n c) xs):n=xs.length/\Qw w a xs:=by
 rcases h with⟨g,cap,e,h1,h2,f,hc⟩|⟨⟨a',e⟩,rfl⟩
 ·injection e with e1 e2 e3;subst e1 e2;exact⟨rfl,f.quad h2⟩
 ·injection e with e1 e2 e3;exact⟨e2,Quad.nil _ _ _⟩
theorem zek{w:World}{base:Nat}{v:Value}{t:TypeId}{xs:List Q4}(h:w.ownsRow base t 4 v xs.length (za5 xs)):QV w base v xs:=by
 by_cases hn:v=.slice none 0 0
 ·rcases h.2 with⟨_,e2⟩|⟨g,cap,cur,e,_⟩
  ·exact .inr ⟨⟨none,hn⟩,List.eq_nil_of_length_eq_zero e2⟩
  ·rw[e]at hn;injection hn with hn;cases hn
 ·obtain⟨g,cap,rfl,h1,h2,f,hc⟩:=zp3 h hn;exact .inl ⟨g,cap,rfl,h1,h2,f,hc⟩
structure LV (w:World) (lo:Nat) (sT sO sP:Value) (T O P:List Q4):Prop where
 t:QV w lo sT T
 o:QV w lo sO O
 p:QV w lo sP P
 to:∀g,zhj sT=some g->zhj sO≠some g
 tp:∀g,zhj sT=some g->zhj sP≠some g
 op:∀g,zhj sO=some g->zhj sP≠some g
theorem LV.next{w w':World}{lo:Nat}{sT sO sP:Value}{T O P:List Q4}(h:LV w lo sT sO sP T O P)(hb:Bw w w'):LV w' lo sT sO sP T O P:=⟨h.t.next hb,h.o.next hb,h.p.next hb,h.to,h.tp,h.op⟩
theorem LV.lower{w:World}{lo lo':Nat}{sT sO sP:Value}{T O P:List Q4}(h:LV w lo sT sO sP T O P)(hl:lo'<=lo):LV w lo' sT sO sP T O P:=⟨h.t.lower hl,h.o.lower hl,h.p.lower hl,h.to,h.tp,h.op⟩
theorem LV.zero(w:World)(lo:Nat):LV w lo (.slice none 0 0) (.slice none 0 0) (.slice none 0 0) [] [] []:=⟨QV.zero _ _ _,QV.zero _ _ _,QV.zero _ _ _,fun g h=>(by cases h),fun g h=>(by cases h),fun g h=>(by cases h)⟩
def zpo(x:Int):Bool:=decide (0<=x) && decide (x<=1000000000)
def zfo(x:Int):Bool:=decide (1<=x) && decide (x<=1500)
def zw4(u l:Int):Bool:=decide (0<=l) && decide (l<=1000000000*u)
def zj0(r u l t:Int):Bool:=((zdf r && zpo u) && zw4 u l) && zba t
theorem zol{x:Int}(h:zpo x=true):0<=x/\x<=1000000000:=by simpa[zpo] using h
theorem zi1{x:Int}(h:zfo x=true):1<=x/\x<=1500:=by simpa[zfo] using h
theorem z1l{u l:Int}(h:zw4 u l=true):0<=l/\l<=1000000000*u:=by simpa[zw4] using h
theorem zlp{x:Int}(h:zba x=true):0<=x/\x<=1000000000000000:=by simpa[zba] using h
theorem z1m{x:Int}(h:zdf x=true):0<=x/\x<=1000000000000:=by simpa[zdf] using h
theorem zi2{r u l t:Int}(h:zj0 r u l t=true):(0<=r/\r<=1000000000000)/\(0<=u/\u<=1000000000)/\(0<=l/\l<=1000000000*u)/\(0<=t/\t<=1000000000000000):=by unfold zj0 at h;rw[bae,bae,bae]at h;exact⟨z1m h.1.1.1,zol h.1.1.2,z1l h.1.2,zlp h.2⟩
theorem zfp(x:Int)(w:World):Calls Tryz.prog 122 #[.int .i64 x] w fun e w'=>e=.returned (.bool (zpo x))/\w'=w:=by go_enter Tryz.func122,Tryz.ntmps122;go_wp2_with (first|(go_at_call 48;refine same1 (zey _ _ _ _) ?_));go_ret;exact⟨rfl,rfl⟩
theorem z1n(x:Int)(w:World):Calls Tryz.prog 71 #[.int .i64 x] w fun e w'=>e=.returned (.bool (zfo x))/\w'=w:=by go_enter Tryz.func71,Tryz.ntmps71;go_wp2_with (first|(go_at_call 48;refine same1 (zey _ _ _ _) ?_));go_ret;exact⟨rfl,rfl⟩
theorem zw5(x y:Int)(w:World):Calls Tryz.prog 84 #[.int .i64 x,.int .i64 y] w fun e w'=>e=.returned (.int .i64 (min x y))/\w'=w:=by
 by_cases h:x<y
 ·rw[Int.min_eq_left (by omega)];go_enter Tryz.func84,Tryz.ntmps84;go_wp2;go_ret;exact⟨rfl,rfl⟩
 ·rw[Int.min_eq_right (by omega)];go_enter Tryz.func84,Tryz.ntmps84;go_wp2;go_ret;exact⟨rfl,rfl⟩
theorem zke(r u l t:Int)(w:World):Calls Tryz.prog 145 #[.agg #[.int .i64 r,.int .i64 u,.int .i64 l,.int .i64 t]] w fun e w'=>e=.returned (.bool (zj0 r u l t))/\Bw w w':=by
 unfold zj0;cases h1:zdf r
 ·go_enter Tryz.func145,Tryz.ntmps145;go_wp2_with (first|(go_at_call 144;refine same1 (zgb _ _) ?_;rw[h1]));go_ret;exact⟨rfl,by go_grown⟩
 ·cases h2:zpo u
  ·go_enter Tryz.func145,Tryz.ntmps145;go_wp2_with (first|(go_at_call 144;refine same1 (zgb _ _) ?_;rw[h1])|(go_at_call 122;refine same1 (zfp _ _) ?_;rw[h2]));go_ret;exact⟨rfl,by go_grown⟩
  ·have n2:=zol h2;cases h3:zw4 u l
   ·go_enter Tryz.func145,Tryz.ntmps145;go_wp2_with (first| (go_at_call 144;refine same1 (zgb _ _) ?_;rw[h1])| (go_at_call 122;refine same1 (zfp _ _) ?_;rw[h2])| (go_at_call 48;refine same1 (zey _ _ _ _) ?_;rw[show (decide (0<=l) && decide (l<=1000000000*u))=false from h3]));go_ret;exact⟨rfl,by go_grown⟩
   ·go_enter Tryz.func145,Tryz.ntmps145;go_wp2_with (first| (go_at_call 144;refine same1 (zgb _ _) ?_;rw[h1])| (go_at_call 122;refine same1 (zfp _ _) ?_;rw[h2])| (go_at_call 48;refine same1 (zey _ _ _ _) ?_;rw[show (decide (0<=l) && decide (l<=1000000000*u))=true from h3])| (go_at_call 89;refine same1 (zlb _ _) ?_));go_ret;exact⟨rfl,by go_grown⟩
abbrev bkV(a:Int × Int × Int × Int):Value:=.agg #[.int .i64 a.1,.int .i64 a.2.1,.int .i64 a.2.2.1,.int .i64 a.2.2.2]
def zj1(r u t:Int):Bool:=(zdf r && zpo u) && zba t
def zp4(r u t:Int):Int × Int × Int × Int:=if zj1 r u t=true then (r,u,1000000000*u,t) else (0,0,0,0)
theorem zp5(r u t:Int)(w:World):Calls Tryz.prog 193 #[.int .i64 r,.int .i64 u,.int .i64 t] w fun e w'=>e=.returned (.tuple #[bkV (zp4 r u t),.bool (zj1 r u t)])/\Bw w w':=by
 have no:zj1 r u t=false->Calls Tryz.prog 193 #[.int .i64 r,.int .i64 u,.int .i64 t] w fun e w'=>e=.returned (.tuple #[.agg #[.int .i64 0,.int .i64 0,.int .i64 0,.int .i64 0],.bool false])/\Bw w w':=by
  intro h;cases h1:zdf r<;>cases h2:zpo u<;>cases h3:zba t
  all_goals first
   | (exfalso;unfold zj1 at h;rw[h1,h2,h3]at h;cases h;done)
   | (go_enter Tryz.func193,Tryz.ntmps193
      go_wp2_with (first|(go_at_call 144;refine same1 (zgb _ _) ?_;rw[h1])|(go_at_call 122;refine same1 (zfp _ _) ?_;rw[h2])|(go_at_call 89;refine same1 (zlb _ _) ?_;rw[h3]));refine bodyPost_ret (zah rfl _ _ _ [.int .i64 0,.int .i64 0,.int .i64 0,.int .i64 0] rfl zfn Tryz.underlying53 rfl (by kernel_rfl)) rfl ?_;exact⟨rfl,by go_grown⟩)
 cases h:zj1 r u t
 ·refine (no h).mono ?_;rintro e w' ⟨rfl,hb⟩;refine⟨?_,hb⟩;unfold zp4;rw[h];rfl
 ·have h':=h;unfold zj1 at h';rw[bae,bae]at h';obtain⟨⟨h1,h2⟩,h3⟩:=h';have n2:=zol h2;have e0:zp4 r u t=(r,u,1000000000*u,t):=(by unfold zp4;rw[h];rfl);rw[e0];clear e0 h;go_enter Tryz.func193,Tryz.ntmps193;go_wp2_with (first|(go_at_call 144;refine same1 (zgb _ _) ?_;rw[h1])|(go_at_call 122;refine same1 (zfp _ _) ?_;rw[h2])|(go_at_call 89;refine same1 (zlb _ _) ?_;rw[h3]));refine bodyPost_ret (zah rfl _ _ _ [.int .i64 r,.int .i64 u,.int .i64 (1000000000*u),.int .i64 t] rfl zfn Tryz.underlying53 rfl (by kernel_rfl)) rfl ?_;exact⟨rfl,by go_grown⟩
def zom(r u l t now:Int):Int:=if now<=t then l else min (1000000000*u) (l+r*(now-t))
def zsa(t now:Int):Int:=if now<=t then t else now
theorem md_one{r d:Int}(hr:0<=r)(hd:0<=d):zlm r d 1=decide (r*d<=9223372036854775807)/\(zlm r d 1=true->mdQ r d 1=r*d):=by
 have e:zlm r d 1=decide (r*d<=9223372036854775807):=by
  unfold zlm;rw[Int.ediv_one];by_cases h:r*d<=9223372036854775807
  ·rw[decide_eq_true h,decide_eq_true ⟨hr,hd,by omega,h⟩]
  ·rw[decide_eq_false h,decide_eq_false (fun k=>h k.2.2.2)]
 refine⟨e,fun h=>?_⟩;unfold mdQ;rw[if_pos h,Int.ediv_one]
theorem zzh{u l P:Int}(hu:0<=u/\u<=1000000000)(hl:0<=l/\l<=1000000000*u)(h0:0<=P)(hP:P<=9223372036854775807):min (1000000000*u) (zjx l P)=min (1000000000*u) (l+P):=by
 unfold zjx;split
 ·rw[Int.min_eq_left (by omega),Int.min_eq_left (by omega)]
 ·rw[if_neg (by omega)]
theorem z1o{u l P:Int}(hu:0<=u/\u<=1000000000)(hl:0<=l/\l<=1000000000*u)(hP:9223372036854775807<P):min (1000000000*u) (zjx l (1000000000*u))=min (1000000000*u) (l+P):=by unfold zjx;rw[if_neg (by omega),if_neg (by omega),Int.min_eq_left (by omega),Int.min_eq_left (by omega)]
theorem zsb{r u l t now:Int}(hu:0<=u/\u<=1000000000)(hl:0<=l/\l<=1000000000*u)(hr:0<=r):0<=zom r u l t now/\zom r u l t now<=1000000000*u:=by
 unfold zom;split
 ·exact hl
 ·rename_i h;have:0<=r*(now-t):=Int.mul_nonneg hr (by omega);exact⟨by rw[Int.le_min];omega,Int.min_le_left _ _⟩
theorem znu{r u l t now:Int}(w:World)(h:zj0 r u l t=true)(hn:zba now=true):
 Calls Tryz.prog 140 #[.agg #[.int .i64 r,.int .i64 u,.int .i64 l,.int .i64 t],.int .i64 now] w fun e w'=>e=.returned (.agg #[.int .i64 r,.int .i64 u,.int .i64 (zom r u l t now),.int .i64 (zsa t now)])/\Bw w w':=by
 obtain⟨nr,nu,nl,nt⟩:=zi2 h;have nn:=zlp hn;by_cases hle:now<=t
 ·have e1:zom r u l t now=l:=if_pos hle;have e2:zsa t now=t:=if_pos hle;rw[e1,e2];go_enter Tryz.func140,Tryz.ntmps140;go_wp2;refine bodyPost_ret (zaf rfl _ _ _ [.int .i64 r,.int .i64 u,.int .i64 l,.int .i64 t] rfl zfn Tryz.underlying53 rfl (by kernel_rfl)) rfl ?_;exact⟨rfl,by go_grown⟩
 ·have e1:zom r u l t now=min (1000000000*u) (l+r*(now-t)):=if_neg hle;have e2:zsa t now=now:=if_neg hle;rw[e1,e2];have hlt:t<now:=(by omega);obtain⟨m1,m2⟩:=md_one nr.1 (show 0<=now-t by omega);have hP0:0<=r*(now-t):=Int.mul_nonneg nr.1 (by omega);clear e1 e2 hle;by_cases hP:r*(now-t)<=9223372036854775807
  ·have m1':zlm r (now-t) 1=true:=m1.trans (decide_eq_true hP);have m2':=m2 m1';rw[<-zzh nu nl hP0 hP];have M1:Hid (zlm r (now-t) 1=true):=m1';have M2:Hid (mdQ r (now-t) 1=r*(now-t)):=m2';clear m1 m2 m1' m2';generalize r*(now-t)=P at *;go_enter Tryz.func140,Tryz.ntmps140;go_wp2_with (first| (go_at_call 168;refine same1 (zfi _ _ _ _ (by omega) (by omega) (by omega)) ?_;rw[M1.out,M2.out])| (go_at_call 170;refine same1 (zll _ _ _ (by omega) (by omega) (by omega) (by omega)) ?_)| (go_at_call 84;refine same1 (zw5 _ _ _) ?_));refine bodyPost_ret (zaf rfl _ _ _ [.int .i64 r,.int .i64 u,.int .i64 (min (1000000000*u) (zjx l P)),.int .i64 now] rfl zfn Tryz.underlying53 rfl (by kernel_rfl)) rfl ?_;exact⟨rfl,by go_grown⟩
  ·have m1':zlm r (now-t) 1=false:=m1.trans (decide_eq_false hP);rw[<-z1o nu nl (by omega)];have M1:Hid (zlm r (now-t) 1=false):=m1';clear m1 m2 m1';go_enter Tryz.func140,Tryz.ntmps140;go_wp2_with (first| (go_at_call 168;refine same1 (zfi _ _ _ _ (by omega) (by omega) (by omega)) ?_;rw[M1.out])| (go_at_call 170;refine same1 (zll _ _ _ (by omega) (by omega) (by omega) (by omega)) ?_)| (go_at_call 84;refine same1 (zw5 _ _ _) ?_));refine bodyPost_ret (zaf rfl _ _ _ [.int .i64 r,.int .i64 u,.int .i64 (min (1000000000*u) (zjx l (1000000000*u))),.int .i64 now] rfl zfn Tryz.underlying53 rfl (by kernel_rfl)) rfl ?_;exact⟨rfl,by go_grown⟩
def zlq(x:Int):Bool:=decide (1<=x) && decide (x<=3)
def zgr(x:Int):Bool:=decide (3000<=x) && decide (x<=1000000000)
def ze7(x:Int):Bool:=decide (0<=x) && decide (x<=1000000000)
def zzi(x:Int):Bool:=decide (1<=x) && decide (x<=1500)
def ccB(k wn th fl ac la og st fr:Int):Bool:=((((((((zlq k && zgr wn) && zgr th) && ze7 fl) && ze7 ac) && ze7 la) && ze7 og) && ze7 fr) && zba st)
theorem zbq{k wn th fl ac la og st fr:Int}(h:ccB k wn th fl ac la og st fr=true):(1<=k/\k<=3)/\(3000<=wn/\wn<=1000000000)/\(3000<=th/\th<=1000000000)/\(0<=fl/\fl<=1000000000)/\(0<=ac/\ac<=1000000000)/\(0<=la/\la<=1000000000)/\(0<=og/\og<=1000000000)/\(0<=st/\st<=1000000000000000)/\(0<=fr/\fr<=1000000000):=by unfold ccB zlq zgr ze7 zba at h;simp only[bae,decide_eq_true_eq]at h;omega
section
variable{x:Int}{f:Bool}
theorem zcm(h:zgr x=f)(w:World):Calls Tryz.prog 146 #[.int .i64 x] w fun e w'=>e=.returned (.bool f)/\w'=w:=by subst h;go_enter Tryz.func146,Tryz.ntmps146;go_wp2_with (first|(go_at_call 48;refine same1 (zey _ _ _ _) ?_));go_ret;exact⟨rfl,rfl⟩
theorem zbj(h:ze7 x=f)(w:World):Calls Tryz.prog 122 #[.int .i64 x] w fun e w'=>e=.returned (.bool f)/\w'=w:=by subst h;go_enter Tryz.func122,Tryz.ntmps122;go_wp2_with (first|(go_at_call 48;refine same1 (zey _ _ _ _) ?_));go_ret;exact⟨rfl,rfl⟩
theorem zgc(h:zba x=f)(w:World):Calls Tryz.prog 89 #[.int .i64 x] w fun e w'=>e=.returned (.bool f)/\w'=w:=by subst h;go_enter Tryz.func89,Tryz.ntmps89;go_wp2_with (first|(go_at_call 48;refine same1 (zey _ _ _ _) ?_));go_ret;exact⟨rfl,rfl⟩
theorem zw6(h:zzi x=f)(w:World):Calls Tryz.prog 71 #[.int .i64 x] w fun e w'=>e=.returned (.bool f)/\w'=w:=by subst h;go_enter Tryz.func71,Tryz.ntmps71;go_wp2_with (first|(go_at_call 48;refine same1 (zey _ _ _ _) ?_));go_ret;exact⟨rfl,rfl⟩
theorem zd3(h:zlq x=f)(w:World):Calls Tryz.prog 109 #[.int .i64 x] w fun e w'=>e=.returned (.bool f)/\w'=w:=by subst h;go_enter Tryz.func109,Tryz.ntmps109;go_wp2_with (first|(go_at_call 62;refine same1 (zbr _ _ _ _) ?_));go_ret;exact⟨rfl,rfl⟩
theorem zb0(h:zgr x=f)(w:World):Calls Tryz.prog 150 #[.int .i64 x] w fun e w'=>e=.returned (.bool f)/\w'=w:=by subst h;go_enter Tryz.func150,Tryz.ntmps150;go_wp2_with (first|(go_at_call 62;refine same1 (zbr _ _ _ _) ?_));go_ret;exact⟨rfl,rfl⟩
theorem zcc(h:ze7 x=f)(w:World):Calls Tryz.prog 118 #[.int .i64 x] w fun e w'=>e=.returned (.bool f)/\w'=w:=by subst h;go_enter Tryz.func118,Tryz.ntmps118;go_wp2_with (first|(go_at_call 62;refine same1 (zbr _ _ _ _) ?_));go_ret;exact⟨rfl,rfl⟩
theorem zgd(h:zba x=f)(w:World):Calls Tryz.prog 87 #[.int .i64 x] w fun e w'=>e=.returned (.bool f)/\w'=w:=by subst h;go_enter Tryz.func87,Tryz.ntmps87;go_wp2_with (first|(go_at_call 62;refine same1 (zbr _ _ _ _) ?_));go_ret;exact⟨rfl,rfl⟩
theorem zdm(h:zlq x=f)(w:World):Calls Tryz.prog 48 #[.int .i64 x,.int .i64 1,.int .i64 3] w fun e w'=>e=.returned (.bool f)/\w'=w:=by subst h;exact zey 1 x 3 w
end
theorem zp6(k wn th fl ac la og st fr:Int)(sl:Bool)(w:World):Calls Tryz.prog 135 #[.agg #[.int .i64 k,.int .i64 wn,.int .i64 th,.int .i64 fl,.int .i64 ac,.int .i64 la,.int .i64 og,.int .i64 st,.int .i64 fr,.bool sl]] w fun e w'=>e=.returned (.bool (ccB k wn th fl ac la og st fr))/\w'=w.alloc (.cells #[.int .i64 k,.int .i64 wn,.int .i64 th,.int .i64 fl,.int .i64 ac,.int .i64 la,.int .i64 og,.int .i64 st,.int .i64 fr,.bool sl] 44):=by
 have key:∀fk fwn fth ffl fac fla fog ffr fst:Bool,zlq k=fk->zgr wn=fwn->zgr th=fth->ze7 fl=ffl->ze7 ac=fac->ze7 la=fla->ze7 og=fog->ze7 fr=ffr->zba st=fst->Calls Tryz.prog 135 #[.agg #[.int .i64 k,.int .i64 wn,.int .i64 th,.int .i64 fl,.int .i64 ac,.int .i64 la,.int .i64 og,.int .i64 st,.int .i64 fr,.bool sl]] w fun e w'=>e=.returned (.bool (((((((((fk && fwn) && fth) && ffl) && fac) && fla) && fog) && ffr) && fst)))/\w'=w.alloc (.cells #[.int .i64 k,.int .i64 wn,.int .i64 th,.int .i64 fl,.int .i64 ac,.int .i64 la,.int .i64 og,.int .i64 st,.int .i64 fr,.bool sl] 44):=by
  intro fk fwn fth ffl fac fla fog ffr fst hk hwn hth hfl hac hla hog hfr hst;cases fk
  ·go_enter Tryz.func135,Tryz.ntmps135;go_wp2_with (first| (go_at_call 48;refine same1 (zdm hk _) ?_));go_ret;exact⟨rfl,rfl⟩
  cases fwn
  ·go_enter Tryz.func135,Tryz.ntmps135;go_wp2_with (first| (go_at_call 48;refine same1 (zdm hk _) ?_)| (go_at_call 146;refine same1 (zcm hwn _) ?_));go_ret;exact⟨rfl,rfl⟩
  cases fth
  ·go_enter Tryz.func135,Tryz.ntmps135;go_wp2_with (first| (go_at_call 48;refine same1 (zdm hk _) ?_)| (go_at_call 146;refine same1 (zcm hwn _) ?_)| (go_at_call 146;refine same1 (zcm hth _) ?_));go_ret;exact⟨rfl,rfl⟩
  cases ffl
  ·go_enter Tryz.func135,Tryz.ntmps135;go_wp2_with (first| (go_at_call 48;refine same1 (zdm hk _) ?_)| (go_at_call 146;refine same1 (zcm hwn _) ?_)| (go_at_call 146;refine same1 (zcm hth _) ?_)| (go_at_call 122;refine same1 (zbj hfl _) ?_));go_ret;exact⟨rfl,rfl⟩
  cases fac
  ·go_enter Tryz.func135,Tryz.ntmps135;go_wp2_with (first| (go_at_call 48;refine same1 (zdm hk _) ?_)| (go_at_call 146;refine same1 (zcm hwn _) ?_)| (go_at_call 146;refine same1 (zcm hth _) ?_)| (go_at_call 122;refine same1 (zbj hfl _) ?_)| (go_at_call 122;refine same1 (zbj hac _) ?_));go_ret;exact⟨rfl,rfl⟩
  cases fla
  ·go_enter Tryz.func135,Tryz.ntmps135;go_wp2_with (first| (go_at_call 48;refine same1 (zdm hk _) ?_)| (go_at_call 146;refine same1 (zcm hwn _) ?_)| (go_at_call 146;refine same1 (zcm hth _) ?_)| (go_at_call 122;refine same1 (zbj hfl _) ?_)| (go_at_call 122;refine same1 (zbj hac _) ?_)| (go_at_call 122;refine same1 (zbj hla _) ?_));go_ret;exact⟨rfl,rfl⟩
  cases fog
  ·go_enter Tryz.func135,Tryz.ntmps135;go_wp2_with (first| (go_at_call 48;refine same1 (zdm hk _) ?_)| (go_at_call 146;refine same1 (zcm hwn _) ?_)| (go_at_call 146;refine same1 (zcm hth _) ?_)| (go_at_call 122;refine same1 (zbj hfl _) ?_)| (go_at_call 122;refine same1 (zbj hac _) ?_)| (go_at_call 122;refine same1 (zbj hla _) ?_)| (go_at_call 122;refine same1 (zbj hog _) ?_));go_ret;exact⟨rfl,rfl⟩
  cases ffr
  ·go_enter Tryz.func135,Tryz.ntmps135;go_wp2_with (first| (go_at_call 48;refine same1 (zdm hk _) ?_)| (go_at_call 146;refine same1 (zcm hwn _) ?_)| (go_at_call 146;refine same1 (zcm hth _) ?_)| (go_at_call 122;refine same1 (zbj hfl _) ?_)| (go_at_call 122;refine same1 (zbj hac _) ?_)| (go_at_call 122;refine same1 (zbj hla _) ?_)| (go_at_call 122;refine same1 (zbj hog _) ?_)| (go_at_call 122;refine same1 (zbj hfr _) ?_));go_ret;exact⟨rfl,rfl⟩
  cases fst
  ·go_enter Tryz.func135,Tryz.ntmps135;go_wp2_with (first| (go_at_call 48;refine same1 (zdm hk _) ?_)| (go_at_call 146;refine same1 (zcm hwn _) ?_)| (go_at_call 146;refine same1 (zcm hth _) ?_)| (go_at_call 122;refine same1 (zbj hfl _) ?_)| (go_at_call 122;refine same1 (zbj hac _) ?_)| (go_at_call 122;refine same1 (zbj hla _) ?_)| (go_at_call 122;refine same1 (zbj hog _) ?_)| (go_at_call 122;refine same1 (zbj hfr _) ?_)| (go_at_call 89;refine same1 (zgc hst _) ?_));go_ret;exact⟨rfl,rfl⟩
  go_enter Tryz.func135,Tryz.ntmps135;go_wp2_with (first| (go_at_call 48;refine same1 (zdm hk _) ?_)| (go_at_call 146;refine same1 (zcm hwn _) ?_)| (go_at_call 146;refine same1 (zcm hth _) ?_)| (go_at_call 122;refine same1 (zbj hfl _) ?_)| (go_at_call 122;refine same1 (zbj hac _) ?_)| (go_at_call 122;refine same1 (zbj hla _) ?_)| (go_at_call 122;refine same1 (zbj hog _) ?_)| (go_at_call 122;refine same1 (zbj hfr _) ?_)| (go_at_call 89;refine same1 (zgc hst _) ?_));go_ret;exact⟨rfl,rfl⟩
 exact key _ _ _ _ _ _ _ _ _ rfl rfl rfl rfl rfl rfl rfl rfl rfl
theorem zaz{k wn th fl ac la og st fr:Int}{f:Bool}(h:ccB k wn th fl ac la og st fr=f)(sl:Bool)(w:World):Calls Tryz.prog 135 #[.agg #[.int .i64 k,.int .i64 wn,.int .i64 th,.int .i64 fl,.int .i64 ac,.int .i64 la,.int .i64 og,.int .i64 st,.int .i64 fr,.bool sl]] w fun e w'=>e=.returned (.bool f)/\w'=w.alloc (.cells #[.int .i64 k,.int .i64 wn,.int .i64 th,.int .i64 fl,.int .i64 ac,.int .i64 la,.int .i64 og,.int .i64 st,.int .i64 fr,.bool sl] 44):=by subst h;exact zp6 k wn th fl ac la og st fr sl w
theorem zp7(k wn th fl ac la og st fr:Int)(sl:Bool)(w:World):Calls Tryz.prog 127 #[.agg #[.int .i64 k,.int .i64 wn,.int .i64 th,.int .i64 fl,.int .i64 ac,.int .i64 la,.int .i64 og,.int .i64 st,.int .i64 fr,.bool sl]] w fun e w'=>e=.returned (.bool (ccB k wn th fl ac la og st fr))/\w'=w.alloc (.cells #[.int .i64 k,.int .i64 wn,.int .i64 th,.int .i64 fl,.int .i64 ac,.int .i64 la,.int .i64 og,.int .i64 st,.int .i64 fr,.bool sl] 44):=by
 have key:∀fk fwn fth fst ffl fac fla fog ffr:Bool,zlq k=fk->zgr wn=fwn->zgr th=fth->zba st=fst->ze7 fl=ffl->ze7 ac=fac->ze7 la=fla->ze7 og=fog->ze7 fr=ffr->Calls Tryz.prog 127 #[.agg #[.int .i64 k,.int .i64 wn,.int .i64 th,.int .i64 fl,.int .i64 ac,.int .i64 la,.int .i64 og,.int .i64 st,.int .i64 fr,.bool sl]] w fun e w'=>e=.returned (.bool (((((((((fk && fwn) && fth) && ffl) && fac) && fla) && fog) && ffr) && fst)))/\w'=w.alloc (.cells #[.int .i64 k,.int .i64 wn,.int .i64 th,.int .i64 fl,.int .i64 ac,.int .i64 la,.int .i64 og,.int .i64 st,.int .i64 fr,.bool sl] 44):=by
  intro fk fwn fth fst ffl fac fla fog ffr hk hwn hth hst hfl hac hla hog hfr;cases fk
  ·go_enter Tryz.func127,Tryz.ntmps127;go_wp2_with (first| (go_at_call 109;refine same1 (zd3 hk _) ?_));go_ret;exact⟨rfl,rfl⟩
  cases fwn
  ·go_enter Tryz.func127,Tryz.ntmps127;go_wp2_with (first| (go_at_call 109;refine same1 (zd3 hk _) ?_)| (go_at_call 150;refine same1 (zb0 hwn _) ?_));go_ret;exact⟨rfl,rfl⟩
  cases fth
  ·go_enter Tryz.func127,Tryz.ntmps127;go_wp2_with (first| (go_at_call 109;refine same1 (zd3 hk _) ?_)| (go_at_call 150;refine same1 (zb0 hwn _) ?_)| (go_at_call 150;refine same1 (zb0 hth _) ?_));go_ret;exact⟨rfl,rfl⟩
  cases fst
  ·rw[Bool.and_false];go_enter Tryz.func127,Tryz.ntmps127;go_wp2_with (first| (go_at_call 109;refine same1 (zd3 hk _) ?_)| (go_at_call 150;refine same1 (zb0 hwn _) ?_)| (go_at_call 150;refine same1 (zb0 hth _) ?_)| (go_at_call 87;refine same1 (zgd hst _) ?_));go_ret;exact⟨rfl,rfl⟩
  cases ffl
  ·go_enter Tryz.func127,Tryz.ntmps127;go_wp2_with (first| (go_at_call 109;refine same1 (zd3 hk _) ?_)| (go_at_call 150;refine same1 (zb0 hwn _) ?_)| (go_at_call 150;refine same1 (zb0 hth _) ?_)| (go_at_call 87;refine same1 (zgd hst _) ?_)| (go_at_call 118;refine same1 (zcc hfl _) ?_));go_ret;exact⟨rfl,rfl⟩
  cases fac
  ·go_enter Tryz.func127,Tryz.ntmps127;go_wp2_with (first| (go_at_call 109;refine same1 (zd3 hk _) ?_)| (go_at_call 150;refine same1 (zb0 hwn _) ?_)| (go_at_call 150;refine same1 (zb0 hth _) ?_)| (go_at_call 87;refine same1 (zgd hst _) ?_)| (go_at_call 118;refine same1 (zcc hfl _) ?_)| (go_at_call 118;refine same1 (zcc hac _) ?_));go_ret;exact⟨rfl,rfl⟩
  cases fla
  ·go_enter Tryz.func127,Tryz.ntmps127;go_wp2_with (first| (go_at_call 109;refine same1 (zd3 hk _) ?_)| (go_at_call 150;refine same1 (zb0 hwn _) ?_)| (go_at_call 150;refine same1 (zb0 hth _) ?_)| (go_at_call 87;refine same1 (zgd hst _) ?_)| (go_at_call 118;refine same1 (zcc hfl _) ?_)| (go_at_call 118;refine same1 (zcc hac _) ?_)| (go_at_call 118;refine same1 (zcc hla _) ?_));go_ret;exact⟨rfl,rfl⟩
  cases fog
  ·go_enter Tryz.func127,Tryz.ntmps127;go_wp2_with (first| (go_at_call 109;refine same1 (zd3 hk _) ?_)| (go_at_call 150;refine same1 (zb0 hwn _) ?_)| (go_at_call 150;refine same1 (zb0 hth _) ?_)| (go_at_call 87;refine same1 (zgd hst _) ?_)| (go_at_call 118;refine same1 (zcc hfl _) ?_)| (go_at_call 118;refine same1 (zcc hac _) ?_)| (go_at_call 118;refine same1 (zcc hla _) ?_)| (go_at_call 118;refine same1 (zcc hog _) ?_));go_ret;exact⟨rfl,rfl⟩
  cases ffr
  ·go_enter Tryz.func127,Tryz.ntmps127;go_wp2_with (first| (go_at_call 109;refine same1 (zd3 hk _) ?_)| (go_at_call 150;refine same1 (zb0 hwn _) ?_)| (go_at_call 150;refine same1 (zb0 hth _) ?_)| (go_at_call 87;refine same1 (zgd hst _) ?_)| (go_at_call 118;refine same1 (zcc hfl _) ?_)| (go_at_call 118;refine same1 (zcc hac _) ?_)| (go_at_call 118;refine same1 (zcc hla _) ?_)| (go_at_call 118;refine same1 (zcc hog _) ?_)| (go_at_call 118;refine same1 (zcc hfr _) ?_));go_ret;exact⟨rfl,rfl⟩
  go_enter Tryz.func127,Tryz.ntmps127;go_wp2_with (first| (go_at_call 109;refine same1 (zd3 hk _) ?_)| (go_at_call 150;refine same1 (zb0 hwn _) ?_)| (go_at_call 150;refine same1 (zb0 hth _) ?_)| (go_at_call 87;refine same1 (zgd hst _) ?_)| (go_at_call 118;refine same1 (zcc hfl _) ?_)| (go_at_call 118;refine same1 (zcc hac _) ?_)| (go_at_call 118;refine same1 (zcc hla _) ?_)| (go_at_call 118;refine same1 (zcc hog _) ?_)| (go_at_call 118;refine same1 (zcc hfr _) ?_));go_ret;exact⟨rfl,rfl⟩
 exact key _ _ _ _ _ _ _ _ _ rfl rfl rfl rfl rfl rfl rfl rfl rfl
theorem zau{k wn th fl ac la og st fr:Int}{f:Bool}(h:ccB k wn th fl ac la og st fr=f)(sl:Bool)(w:World):Calls Tryz.prog 127 #[.agg #[.int .i64 k,.int .i64 wn,.int .i64 th,.int .i64 fl,.int .i64 ac,.int .i64 la,.int .i64 og,.int .i64 st,.int .i64 fr,.bool sl]] w fun e w'=>e=.returned (.bool f)/\w'=w.alloc (.cells #[.int .i64 k,.int .i64 wn,.int .i64 th,.int .i64 fl,.int .i64 ac,.int .i64 la,.int .i64 og,.int .i64 st,.int .i64 fr,.bool sl] 44):=by subst h;exact zp7 k wn th fl ac la og st fr sl w
theorem zon{k:Int}(w:World)(h:zlq k=true):Calls Tryz.prog 53 #[.int .i64 k] w fun e w'=>e=.returned (.tuple #[.agg #[.int .i64 k,.int .i64 15000,.int .i64 1000000000,.int .i64 0,.int .i64 0,.int .i64 0,.int .i64 0,.int .i64 0,.int .i64 0,.bool true],.bool true])/\Bw w w':=by go_enter Tryz.func53,Tryz.ntmps53;go_wp2_with (first|(go_at_call 48;refine same1 (zdm h _) ?_));refine bodyPost_ret (zah rfl _ _ _ [.int .i64 k,.int .i64 15000,.int .i64 1000000000,.int .i64 0,.int .i64 0,.int .i64 0,.int .i64 0,.int .i64 0,.int .i64 0,.bool true] rfl zao Tryz.underlying44 rfl (by kernel_rfl)) rfl ?_;exact⟨rfl,by go_grown⟩
def zd8(wn:Int):Int:=max 3000 (wn/2)
theorem zb9{x:Int}(h:0<=x)(m:Int):x.tdiv m=x/m:=Int.tdiv_eq_ediv_of_nonneg h
theorem zay(x y:Int)(w:World):Calls Tryz.prog 83 #[.int .i64 x,.int .i64 y] w fun e w'=>e=.returned (.int .i64 (max x y))/\w'=w:=by
 by_cases h:y<x
 ·rw[Int.max_eq_left (by omega)];go_enter Tryz.func83,Tryz.ntmps83;go_wp2;go_ret;exact⟨rfl,rfl⟩
 ·rw[Int.max_eq_right (by omega)];go_enter Tryz.func83,Tryz.ntmps83;go_wp2;go_ret;exact⟨rfl,rfl⟩
theorem zbg(x y:Int)(w:World):Calls Tryz.prog 84 #[.int .i64 x,.int .i64 y] w fun e w'=>e=.returned (.int .i64 (min x y))/\w'=w:=by
 by_cases h:x<y
 ·rw[Int.min_eq_left (by omega)];go_enter Tryz.func84,Tryz.ntmps84;go_wp2;go_ret;exact⟨rfl,rfl⟩
 ·rw[Int.min_eq_right (by omega)];go_enter Tryz.func84,Tryz.ntmps84;go_wp2;go_ret;exact⟨rfl,rfl⟩
section
variable{k wn th fl ac la og st fr:Int}(sl:Bool)(w:World)
theorem zlr(h1:ccB k wn th fl ac la og st fr=false):Calls Tryz.prog 78 #[.agg #[.int .i64 k,.int .i64 wn,.int .i64 th,.int .i64 fl,.int .i64 ac,.int .i64 la,.int .i64 og,.int .i64 st,.int .i64 fr,.bool sl]] w fun e w'=>e=.returned (.agg #[.int .i64 0,.int .i64 0,.int .i64 0,.int .i64 0,.int .i64 0,.int .i64 0,.int .i64 0,.int .i64 0,.int .i64 0,.bool false])/\Bw w w':=by go_enter Tryz.func78,Tryz.ntmps78;go_wp2_with (first| (go_at_call 135;refine same1 (zaz h1 _ _) ?_));refine bodyPost_ret (zaf rfl _ _ _ [.int .i64 0,.int .i64 0,.int .i64 0,.int .i64 0,.int .i64 0,.int .i64 0,.int .i64 0,.int .i64 0,.int .i64 0,.bool false] rfl zao Tryz.underlying44 rfl (by kernel_rfl)) rfl ?_;exact⟨rfl,by go_grown⟩
theorem zkf(h1:ccB k wn th fl ac la og st fr=true):Calls Tryz.prog 78 #[.agg #[.int .i64 k,.int .i64 wn,.int .i64 th,.int .i64 fl,.int .i64 ac,.int .i64 la,.int .i64 og,.int .i64 st,.int .i64 fr,.bool sl]] w fun e w'=>e=.returned (.agg #[.int .i64 k,.int .i64 (zd8 wn),.int .i64 (zd8 wn),.int .i64 fl,.int .i64 0,.int .i64 la,.int .i64 og,.int .i64 st,.int .i64 fr,.bool false])/\Bw w w':=by obtain⟨_,⟨wn0,wn1⟩,_⟩:=zbq h1;have ed:=zb9 (x:=wn) (by omega) 2;have hm:∀w:World,Calls Tryz.prog 83 #[.int .i64 3000,.int .i64 (wn/2)] w fun e w'=>e=.returned (.int .i64 (zd8 wn))/\w'=w:=zay 3000 (wn/2);go_enter Tryz.func78,Tryz.ntmps78;go_wp2_with (first| (go_at_call 135;refine same1 (zaz h1 _ _) ?_)| (go_at_call 83;(try rw[ed]);refine same1 (hm _) ?_));refine bodyPost_ret (zaf rfl _ _ _ [.int .i64 k,.int .i64 (zd8 wn),.int .i64 (zd8 wn),.int .i64 fl,.int .i64 0,.int .i64 la,.int .i64 og,.int .i64 st,.int .i64 fr,.bool false] rfl zao Tryz.underlying44 rfl (by kernel_rfl)) rfl ?_;exact⟨rfl,by go_grown⟩
end
theorem zp8{x:Int}(h:zzi x=true):1<=x/\x<=1500:=by unfold zzi at h;simp only[bae,decide_eq_true_eq]at h;exact h
theorem zp9{k wn th fl ac la og st fr n:Int}(sl:Bool)(w:World)(h1:ccB k wn th fl ac la og st fr=true)(h2:zzi n=true)(h3:fl+n<=wn):Calls Tryz.prog 173 #[.agg #[.int .i64 k,.int .i64 wn,.int .i64 th,.int .i64 fl,.int .i64 ac,.int .i64 la,.int .i64 og,.int .i64 st,.int .i64 fr,.bool sl],.int .i64 n] w fun e w'=>e=.returned (.tuple #[.agg #[.int .i64 k,.int .i64 wn,.int .i64 th,.int .i64 (fl+n),.int .i64 ac,.int .i64 la,.int .i64 og,.int .i64 st,.int .i64 fr,.bool sl],.bool true])/\Bw w w':=by
 obtain⟨_,⟨wn0,wn1⟩,_,⟨fl0,fl1⟩,_⟩:=zbq h1;obtain⟨n0,n1⟩:=zp8 h2;have r1:IntKind.i64.wrap (fl+n)=fl+n:=i64w
 have h3':¬wn<fl+n:=by omega
 go_enter Tryz.func173,Tryz.ntmps173;go_wp2_with (first| (go_at_call 135;refine same1 (zaz h1 _ _) ?_)| (go_at_call 71;refine same1 (zw6 h2 _) ?_));refine bodyPost_ret (zah rfl _ _ _ [.int .i64 k,.int .i64 wn,.int .i64 th,.int .i64 (fl+n),.int .i64 ac,.int .i64 la,.int .i64 og,.int .i64 st,.int .i64 fr,.bool sl] rfl zao Tryz.underlying44 rfl (by kernel_rfl)) rfl ?_;exact⟨rfl,by go_grown⟩
section
variable{k wn th fl ac la og st fr:Int}(sl:Bool)(w:World)
theorem zls(h1:ccB k wn th fl ac la og st fr=false):Calls Tryz.prog 163 #[.agg #[.int .i64 k,.int .i64 wn,.int .i64 th,.int .i64 fl,.int .i64 ac,.int .i64 la,.int .i64 og,.int .i64 st,.int .i64 fr,.bool sl]] w fun e w'=>e=.returned (.agg #[.int .i64 0,.int .i64 0,.int .i64 0,.int .i64 0,.int .i64 0,.int .i64 0,.int .i64 0,.int .i64 0,.int .i64 0,.bool false])/\Bw w w':=by go_enter Tryz.func163,Tryz.ntmps163;go_wp2_with (first| (go_at_call 127;refine same1 (zau h1 _ _) ?_));refine bodyPost_ret (zaf rfl _ _ _ [.int .i64 0,.int .i64 0,.int .i64 0,.int .i64 0,.int .i64 0,.int .i64 0,.int .i64 0,.int .i64 0,.int .i64 0,.bool false] rfl zao Tryz.underlying44 rfl (by kernel_rfl)) rfl ?_;exact⟨rfl,by go_grown⟩
theorem zi3(h1:ccB k wn th fl ac la og st fr=true)(h2:wn/2<3000):Calls Tryz.prog 163 #[.agg #[.int .i64 k,.int .i64 wn,.int .i64 th,.int .i64 fl,.int .i64 ac,.int .i64 la,.int .i64 og,.int .i64 st,.int .i64 fr,.bool sl]] w fun e w'=>e=.returned (.agg #[.int .i64 k,.int .i64 3000,.int .i64 3000,.int .i64 fl,.int .i64 0,.int .i64 la,.int .i64 og,.int .i64 st,.int .i64 fr,.bool false])/\Bw w w':=by
 obtain⟨_,⟨wn0,wn1⟩,_⟩:=zbq h1;have ed:=zb9 (x:=wn) (by omega) 2;have r1:IntKind.i64.wrap (wn/2)=wn/2:=i64w
 go_enter Tryz.func163,Tryz.ntmps163;go_wp2_with (first| (go_at_call 127;refine same1 (zau h1 _ _) ?_)| go_in);refine bodyPost_ret (zaf rfl _ _ _ [.int .i64 k,.int .i64 3000,.int .i64 3000,.int .i64 fl,.int .i64 0,.int .i64 la,.int .i64 og,.int .i64 st,.int .i64 fr,.bool false] rfl zao Tryz.underlying44 rfl (by kernel_rfl)) rfl ?_;exact⟨rfl,by go_grown⟩
theorem zi4(h1:ccB k wn th fl ac la og st fr=true)(h2:3000<=wn/2):Calls Tryz.prog 163 #[.agg #[.int .i64 k,.int .i64 wn,.int .i64 th,.int .i64 fl,.int .i64 ac,.int .i64 la,.int .i64 og,.int .i64 st,.int .i64 fr,.bool sl]] w fun e w'=>e=.returned (.agg #[.int .i64 k,.int .i64 (wn/2),.int .i64 (wn/2),.int .i64 fl,.int .i64 0,.int .i64 la,.int .i64 og,.int .i64 st,.int .i64 fr,.bool false])/\Bw w w':=by
 obtain⟨_,⟨wn0,wn1⟩,_⟩:=zbq h1;have ed:=zb9 (x:=wn) (by omega) 2;have r1:IntKind.i64.wrap (wn/2)=wn/2:=i64w
 go_enter Tryz.func163,Tryz.ntmps163;go_wp2_with (first| (go_at_call 127;refine same1 (zau h1 _ _) ?_)| go_in);refine bodyPost_ret (zaf rfl _ _ _ [.int .i64 k,.int .i64 (wn/2),.int .i64 (wn/2),.int .i64 fl,.int .i64 0,.int .i64 la,.int .i64 og,.int .i64 st,.int .i64 fr,.bool false] rfl zao Tryz.underlying44 rfl (by kernel_rfl)) rfl ?_;exact⟨rfl,by go_grown⟩
theorem zkg(h1:ccB k wn th fl ac la og st fr=true):Calls Tryz.prog 163 #[.agg #[.int .i64 k,.int .i64 wn,.int .i64 th,.int .i64 fl,.int .i64 ac,.int .i64 la,.int .i64 og,.int .i64 st,.int .i64 fr,.bool sl]] w fun e w'=>e=.returned (.agg #[.int .i64 k,.int .i64 (zd8 wn),.int .i64 (zd8 wn),.int .i64 fl,.int .i64 0,.int .i64 la,.int .i64 og,.int .i64 st,.int .i64 fr,.bool false])/\Bw w w':=by
 by_cases h2:wn/2<3000
 ·rw[show zd8 wn=3000 by unfold zd8;omega];exact zi3 sl w h1 h2
 ·rw[show zd8 wn=wn/2 by unfold zd8;omega];exact zi4 sl w h1 (by omega)
end
structure C10 where
 k:Int
 wn:Int
 th:Int
 fl:Int
 ac:Int
 la:Int
 og:Int
 st:Int
 fr:Int
 sl:Bool
def zgs:C10:=⟨0,0,0,0,0,0,0,0,0,false⟩
def zdn(k wn th fl ac la og st fr:Int)(sl:Bool):C10:=if ccB k wn th fl ac la og st fr=true then ⟨k,zd8 wn,zd8 wn,fl,0,la,og,st,fr,false⟩ else zgs
section
variable(k wn th fl ac la og st fr:Int)(sl:Bool)(w:World)
theorem zkh:Calls Tryz.prog 78 #[.agg #[.int .i64 k,.int .i64 wn,.int .i64 th,.int .i64 fl,.int .i64 ac,.int .i64 la,.int .i64 og,.int .i64 st,.int .i64 fr,.bool sl]] w fun e w'=>e=.returned (.agg #[.int .i64 ((zdn k wn th fl ac la og st fr sl).k),.int .i64 ((zdn k wn th fl ac la og st fr sl).wn),.int .i64 ((zdn k wn th fl ac la og st fr sl).th),.int .i64 ((zdn k wn th fl ac la og st fr sl).fl),.int .i64 ((zdn k wn th fl ac la og st fr sl).ac),.int .i64 ((zdn k wn th fl ac la og st fr sl).la),.int .i64 ((zdn k wn th fl ac la og st fr sl).og),.int .i64 ((zdn k wn th fl ac la og st fr sl).st),.int .i64 ((zdn k wn th fl ac la og st fr sl).fr),.bool (zdn k wn th fl ac la og st fr sl).sl])/\Bw w w':=by
 cases h1:ccB k wn th fl ac la og st fr
 ·rw[show zdn k wn th fl ac la og st fr sl=zgs from if_neg (by rw[h1];decide)];exact zlr sl w h1
 ·rw[show zdn k wn th fl ac la og st fr sl=⟨k,zd8 wn,zd8 wn,fl,0,la,og,st,fr,false⟩ from if_pos h1];exact zkf sl w h1
theorem zki:Calls Tryz.prog 163 #[.agg #[.int .i64 k,.int .i64 wn,.int .i64 th,.int .i64 fl,.int .i64 ac,.int .i64 la,.int .i64 og,.int .i64 st,.int .i64 fr,.bool sl]] w fun e w'=>e=.returned (.agg #[.int .i64 ((zdn k wn th fl ac la og st fr sl).k),.int .i64 ((zdn k wn th fl ac la og st fr sl).wn),.int .i64 ((zdn k wn th fl ac la og st fr sl).th),.int .i64 ((zdn k wn th fl ac la og st fr sl).fl),.int .i64 ((zdn k wn th fl ac la og st fr sl).ac),.int .i64 ((zdn k wn th fl ac la og st fr sl).la),.int .i64 ((zdn k wn th fl ac la og st fr sl).og),.int .i64 ((zdn k wn th fl ac la og st fr sl).st),.int .i64 ((zdn k wn th fl ac la og st fr sl).fr),.bool (zdn k wn th fl ac la og st fr sl).sl])/\Bw w w':=by
 cases h1:ccB k wn th fl ac la og st fr
 ·rw[show zdn k wn th fl ac la og st fr sl=zgs from if_neg (by rw[h1];decide)];exact zls sl w h1
 ·rw[show zdn k wn th fl ac la og st fr sl=⟨k,zd8 wn,zd8 wn,fl,0,la,og,st,fr,false⟩ from if_pos h1];exact zkg sl w h1
end
def zhk(wn:Int):Int:=max 3000 (7*wn/10)
def zhl(wn la:Int):Int:=if wn<la then 17*wn/20 else wn
section
variable{k wn th fl ac la og st fr:Int}(sl:Bool)(w:World)
theorem zkj(h1:ccB k wn th fl ac la og st fr=false):Calls Tryz.prog 79 #[.agg #[.int .i64 k,.int .i64 wn,.int .i64 th,.int .i64 fl,.int .i64 ac,.int .i64 la,.int .i64 og,.int .i64 st,.int .i64 fr,.bool sl]] w fun e w'=>e=.returned (.agg #[.int .i64 0,.int .i64 0,.int .i64 0,.int .i64 0,.int .i64 0,.int .i64 0,.int .i64 0,.int .i64 0,.int .i64 0,.bool false])/\Bw w w':=by go_enter Tryz.func79,Tryz.ntmps79;go_wp2_with (first| (go_at_call 135;refine same1 (zaz h1 _ _) ?_));refine bodyPost_ret (zaf rfl _ _ _ [.int .i64 0,.int .i64 0,.int .i64 0,.int .i64 0,.int .i64 0,.int .i64 0,.int .i64 0,.int .i64 0,.int .i64 0,.bool false] rfl zao Tryz.underlying44 rfl (by kernel_rfl)) rfl ?_;exact⟨rfl,by go_grown⟩
theorem zib(h1:ccB k wn th fl ac la og st fr=true)(h2:wn<la):Calls Tryz.prog 79 #[.agg #[.int .i64 k,.int .i64 wn,.int .i64 th,.int .i64 fl,.int .i64 ac,.int .i64 la,.int .i64 og,.int .i64 st,.int .i64 fr,.bool sl]] w fun e w'=>e=.returned (.agg #[.int .i64 k,.int .i64 (zhk wn),.int .i64 (zhk wn),.int .i64 fl,.int .i64 0,.int .i64 (17*wn/20),.int .i64 0,.int .i64 0,.int .i64 0,.bool false])/\Bw w w':=by
 obtain⟨_,⟨wn0,wn1⟩,_,_,_,⟨la0,la1⟩,_⟩:=zbq h1;have r1:IntKind.i64.wrap (7*wn)=7*wn:=i64w
 have r2:IntKind.i64.wrap (17*wn)=17*wn:=i64w
 have ed:=zb9 (x:=7*wn) (by omega) 10;have ee:=zb9 (x:=17*wn) (by omega) 20;have r3:IntKind.i64.wrap (7*wn/10)=7*wn/10:=i64w
 have r4:IntKind.i64.wrap (17*wn/20)=17*wn/20:=i64w
 have hm:∀w:World,Calls Tryz.prog 83 #[.int .i64 3000,.int .i64 (7*wn/10)] w fun e w'=>e=.returned (.int .i64 (zhk wn))/\w'=w:=zay 3000 (7*wn/10);go_enter Tryz.func79,Tryz.ntmps79;go_wp2_with (first| (go_at_call 135;refine same1 (zaz h1 _ _) ?_)| (go_at_call 83;(try rw[ed]);refine same1 (hm _) ?_));refine bodyPost_ret (zaf rfl _ _ _ [.int .i64 k,.int .i64 (zhk wn),.int .i64 (zhk wn),.int .i64 fl,.int .i64 0,.int .i64 (17*wn/20),.int .i64 0,.int .i64 0,.int .i64 0,.bool false] rfl zao Tryz.underlying44 rfl (by kernel_rfl)) rfl ?_;exact⟨rfl,by go_grown⟩
theorem zic(h1:ccB k wn th fl ac la og st fr=true)(h2:¬wn<la):Calls Tryz.prog 79 #[.agg #[.int .i64 k,.int .i64 wn,.int .i64 th,.int .i64 fl,.int .i64 ac,.int .i64 la,.int .i64 og,.int .i64 st,.int .i64 fr,.bool sl]] w fun e w'=>e=.returned (.agg #[.int .i64 k,.int .i64 (zhk wn),.int .i64 (zhk wn),.int .i64 fl,.int .i64 0,.int .i64 wn,.int .i64 0,.int .i64 0,.int .i64 0,.bool false])/\Bw w w':=by
 obtain⟨_,⟨wn0,wn1⟩,_,_,_,⟨la0,la1⟩,_⟩:=zbq h1;have r1:IntKind.i64.wrap (7*wn)=7*wn:=i64w
 have r2:IntKind.i64.wrap (17*wn)=17*wn:=i64w
 have ed:=zb9 (x:=7*wn) (by omega) 10;have ee:=zb9 (x:=17*wn) (by omega) 20;have r3:IntKind.i64.wrap (7*wn/10)=7*wn/10:=i64w
 have r4:IntKind.i64.wrap (17*wn/20)=17*wn/20:=i64w
 have hm:∀w:World,Calls Tryz.prog 83 #[.int .i64 3000,.int .i64 (7*wn/10)] w fun e w'=>e=.returned (.int .i64 (zhk wn))/\w'=w:=zay 3000 (7*wn/10);go_enter Tryz.func79,Tryz.ntmps79;go_wp2_with (first| (go_at_call 135;refine same1 (zaz h1 _ _) ?_)| (go_at_call 83;(try rw[ed]);refine same1 (hm _) ?_));refine bodyPost_ret (zaf rfl _ _ _ [.int .i64 k,.int .i64 (zhk wn),.int .i64 (zhk wn),.int .i64 fl,.int .i64 0,.int .i64 wn,.int .i64 0,.int .i64 0,.int .i64 0,.bool false] rfl zao Tryz.underlying44 rfl (by kernel_rfl)) rfl ?_;exact⟨rfl,by go_grown⟩
theorem zi5(h1:ccB k wn th fl ac la og st fr=true):Calls Tryz.prog 79 #[.agg #[.int .i64 k,.int .i64 wn,.int .i64 th,.int .i64 fl,.int .i64 ac,.int .i64 la,.int .i64 og,.int .i64 st,.int .i64 fr,.bool sl]] w fun e w'=>e=.returned (.agg #[.int .i64 k,.int .i64 (zhk wn),.int .i64 (zhk wn),.int .i64 fl,.int .i64 0,.int .i64 (zhl wn la),.int .i64 0,.int .i64 0,.int .i64 0,.bool false])/\Bw w w':=by
 by_cases h2:wn<la
 ·rw[show zhl wn la=17*wn/20 from if_pos h2];exact zib sl w h1 h2
 ·rw[show zhl wn la=wn from if_neg h2];exact zic sl w h1 h2
theorem zkk(h1:ccB k wn th fl ac la og st fr=false):Calls Tryz.prog 162 #[.agg #[.int .i64 k,.int .i64 wn,.int .i64 th,.int .i64 fl,.int .i64 ac,.int .i64 la,.int .i64 og,.int .i64 st,.int .i64 fr,.bool sl]] w fun e w'=>e=.returned (.agg #[.int .i64 0,.int .i64 0,.int .i64 0,.int .i64 0,.int .i64 0,.int .i64 0,.int .i64 0,.int .i64 0,.int .i64 0,.bool false])/\Bw w w':=by go_enter Tryz.func162,Tryz.ntmps162;go_wp2_with (first| (go_at_call 127;refine same1 (zau h1 _ _) ?_));refine bodyPost_ret (zaf rfl _ _ _ [.int .i64 0,.int .i64 0,.int .i64 0,.int .i64 0,.int .i64 0,.int .i64 0,.int .i64 0,.int .i64 0,.int .i64 0,.bool false] rfl zao Tryz.underlying44 rfl (by kernel_rfl)) rfl ?_;exact⟨rfl,by go_grown⟩
theorem zlt(h1:ccB k wn th fl ac la og st fr=true)(h2:wn<la)(h3:7*wn/10<3000):Calls Tryz.prog 162 #[.agg #[.int .i64 k,.int .i64 wn,.int .i64 th,.int .i64 fl,.int .i64 ac,.int .i64 la,.int .i64 og,.int .i64 st,.int .i64 fr,.bool sl]] w fun e w'=>e=.returned (.agg #[.int .i64 k,.int .i64 3000,.int .i64 3000,.int .i64 fl,.int .i64 0,.int .i64 (17*wn/20),.int .i64 0,.int .i64 0,.int .i64 0,.bool false])/\Bw w w':=by
 obtain⟨_,⟨wn0,wn1⟩,_,_,_,⟨la0,la1⟩,_⟩:=zbq h1;have r1:IntKind.i64.wrap (7*wn)=7*wn:=i64w
 have r2:IntKind.i64.wrap (17*wn)=17*wn:=i64w
 have ed:=zb9 (x:=7*wn) (by omega) 10;have ee:=zb9 (x:=17*wn) (by omega) 20;have r3:IntKind.i64.wrap (7*wn/10)=7*wn/10:=i64w
 have r4:IntKind.i64.wrap (17*wn/20)=17*wn/20:=i64w
 go_enter Tryz.func162,Tryz.ntmps162;go_wp2_with (first| (go_at_call 127;refine same1 (zau h1 _ _) ?_)| go_in);refine bodyPost_ret (zaf rfl _ _ _ [.int .i64 k,.int .i64 3000,.int .i64 3000,.int .i64 fl,.int .i64 0,.int .i64 (17*wn/20),.int .i64 0,.int .i64 0,.int .i64 0,.bool false] rfl zao Tryz.underlying44 rfl (by kernel_rfl)) rfl ?_;exact⟨rfl,by go_grown⟩
theorem zlu(h1:ccB k wn th fl ac la og st fr=true)(h2:wn<la)(h3:3000<=7*wn/10):Calls Tryz.prog 162 #[.agg #[.int .i64 k,.int .i64 wn,.int .i64 th,.int .i64 fl,.int .i64 ac,.int .i64 la,.int .i64 og,.int .i64 st,.int .i64 fr,.bool sl]] w fun e w'=>e=.returned (.agg #[.int .i64 k,.int .i64 (7*wn/10),.int .i64 (7*wn/10),.int .i64 fl,.int .i64 0,.int .i64 (17*wn/20),.int .i64 0,.int .i64 0,.int .i64 0,.bool false])/\Bw w w':=by
 obtain⟨_,⟨wn0,wn1⟩,_,_,_,⟨la0,la1⟩,_⟩:=zbq h1;have r1:IntKind.i64.wrap (7*wn)=7*wn:=i64w
 have r2:IntKind.i64.wrap (17*wn)=17*wn:=i64w
 have ed:=zb9 (x:=7*wn) (by omega) 10;have ee:=zb9 (x:=17*wn) (by omega) 20;have r3:IntKind.i64.wrap (7*wn/10)=7*wn/10:=i64w
 have r4:IntKind.i64.wrap (17*wn/20)=17*wn/20:=i64w
 go_enter Tryz.func162,Tryz.ntmps162;go_wp2_with (first| (go_at_call 127;refine same1 (zau h1 _ _) ?_)| go_in);refine bodyPost_ret (zaf rfl _ _ _ [.int .i64 k,.int .i64 (7*wn/10),.int .i64 (7*wn/10),.int .i64 fl,.int .i64 0,.int .i64 (17*wn/20),.int .i64 0,.int .i64 0,.int .i64 0,.bool false] rfl zao Tryz.underlying44 rfl (by kernel_rfl)) rfl ?_;exact⟨rfl,by go_grown⟩
theorem zlv(h1:ccB k wn th fl ac la og st fr=true)(h2:¬wn<la)(h3:7*wn/10<3000):Calls Tryz.prog 162 #[.agg #[.int .i64 k,.int .i64 wn,.int .i64 th,.int .i64 fl,.int .i64 ac,.int .i64 la,.int .i64 og,.int .i64 st,.int .i64 fr,.bool sl]] w fun e w'=>e=.returned (.agg #[.int .i64 k,.int .i64 3000,.int .i64 3000,.int .i64 fl,.int .i64 0,.int .i64 wn,.int .i64 0,.int .i64 0,.int .i64 0,.bool false])/\Bw w w':=by
 obtain⟨_,⟨wn0,wn1⟩,_,_,_,⟨la0,la1⟩,_⟩:=zbq h1;have r1:IntKind.i64.wrap (7*wn)=7*wn:=i64w
 have r2:IntKind.i64.wrap (17*wn)=17*wn:=i64w
 have ed:=zb9 (x:=7*wn) (by omega) 10;have ee:=zb9 (x:=17*wn) (by omega) 20;have r3:IntKind.i64.wrap (7*wn/10)=7*wn/10:=i64w
 have r4:IntKind.i64.wrap (17*wn/20)=17*wn/20:=i64w
 go_enter Tryz.func162,Tryz.ntmps162;go_wp2_with (first| (go_at_call 127;refine same1 (zau h1 _ _) ?_)| go_in);refine bodyPost_ret (zaf rfl _ _ _ [.int .i64 k,.int .i64 3000,.int .i64 3000,.int .i64 fl,.int .i64 0,.int .i64 wn,.int .i64 0,.int .i64 0,.int .i64 0,.bool false] rfl zao Tryz.underlying44 rfl (by kernel_rfl)) rfl ?_;exact⟨rfl,by go_grown⟩
theorem zlw(h1:ccB k wn th fl ac la og st fr=true)(h2:¬wn<la)(h3:3000<=7*wn/10):Calls Tryz.prog 162 #[.agg #[.int .i64 k,.int .i64 wn,.int .i64 th,.int .i64 fl,.int .i64 ac,.int .i64 la,.int .i64 og,.int .i64 st,.int .i64 fr,.bool sl]] w fun e w'=>e=.returned (.agg #[.int .i64 k,.int .i64 (7*wn/10),.int .i64 (7*wn/10),.int .i64 fl,.int .i64 0,.int .i64 wn,.int .i64 0,.int .i64 0,.int .i64 0,.bool false])/\Bw w w':=by
 obtain⟨_,⟨wn0,wn1⟩,_,_,_,⟨la0,la1⟩,_⟩:=zbq h1;have r1:IntKind.i64.wrap (7*wn)=7*wn:=i64w
 have r2:IntKind.i64.wrap (17*wn)=17*wn:=i64w
 have ed:=zb9 (x:=7*wn) (by omega) 10;have ee:=zb9 (x:=17*wn) (by omega) 20;have r3:IntKind.i64.wrap (7*wn/10)=7*wn/10:=i64w
 have r4:IntKind.i64.wrap (17*wn/20)=17*wn/20:=i64w
 go_enter Tryz.func162,Tryz.ntmps162;go_wp2_with (first| (go_at_call 127;refine same1 (zau h1 _ _) ?_)| go_in);refine bodyPost_ret (zaf rfl _ _ _ [.int .i64 k,.int .i64 (7*wn/10),.int .i64 (7*wn/10),.int .i64 fl,.int .i64 0,.int .i64 wn,.int .i64 0,.int .i64 0,.int .i64 0,.bool false] rfl zao Tryz.underlying44 rfl (by kernel_rfl)) rfl ?_;exact⟨rfl,by go_grown⟩
theorem zi6(h1:ccB k wn th fl ac la og st fr=true):Calls Tryz.prog 162 #[.agg #[.int .i64 k,.int .i64 wn,.int .i64 th,.int .i64 fl,.int .i64 ac,.int .i64 la,.int .i64 og,.int .i64 st,.int .i64 fr,.bool sl]] w fun e w'=>e=.returned (.agg #[.int .i64 k,.int .i64 (zhk wn),.int .i64 (zhk wn),.int .i64 fl,.int .i64 0,.int .i64 (zhl wn la),.int .i64 0,.int .i64 0,.int .i64 0,.bool false])/\Bw w w':=by
 by_cases h3:7*wn/10<3000
 ·rw[show zhk wn=3000 by unfold zhk;omega];by_cases h2:wn<la
  ·rw[show zhl wn la=17*wn/20 from if_pos h2];exact zlt sl w h1 h2 h3
  ·rw[show zhl wn la=wn from if_neg h2];exact zlv sl w h1 h2 h3
 ·rw[show zhk wn=7*wn/10 by unfold zhk;omega];by_cases h2:wn<la
  ·rw[show zhl wn la=17*wn/20 from if_pos h2];exact zlu sl w h1 h2 (by omega)
  ·rw[show zhl wn la=wn from if_neg h2];exact zlw sl w h1 h2 (by omega)
end
def zdo(la og:Int):Int:=if ze7 la=true/\ze7 og=true then zok la og else -1
def zm7(x:Int):Bool:=decide (0<=x) && decide (x<=1000000)
def ze0(la og ms:Int):Int:=if (ze7 la=true/\ze7 og=true)/\zm7 ms=true then zln la og ms else -1
theorem zc7{x:Int}(h:ze7 x=true):0<=x/\x<=1000000000:=by unfold ze7 at h;simp only[bae,decide_eq_true_eq]at h;exact h
theorem zc8(la og:Int)(w:World):Calls Tryz.prog 166 #[.int .i64 la,.int .i64 og] w fun e w'=>e=.returned (.int .i64 (zdo la og))/\w'=w:=by
 cases h1:ze7 la
 ·rw[show zdo la og = -1 from if_neg (by rw[h1];simp)];go_enter Tryz.func166,Tryz.ntmps166;go_wp2_with (first|(go_at_call 122;refine same1 (zbj h1 _) ?_));go_ret;exact⟨rfl,rfl⟩
 cases h2:ze7 og
 ·rw[show zdo la og = -1 from if_neg (by rw[h2];simp)];go_enter Tryz.func166,Tryz.ntmps166;go_wp2_with (first|(go_at_call 122;refine same1 (zbj h1 _) ?_)|(go_at_call 122;refine same1 (zbj h2 _) ?_));go_ret;exact⟨rfl,rfl⟩
 rw[show zdo la og=zok la og from if_pos ⟨h1,h2⟩];obtain⟨l0,l1⟩:=zc7 h1;obtain⟨o0,o1⟩:=zc7 h2;by_cases h3:la<=og
 ·rw[show zok la og=0 from if_pos h3];go_enter Tryz.func166,Tryz.ntmps166;go_wp2_with (first|(go_at_call 122;refine same1 (zbj h1 _) ?_)|(go_at_call 122;refine same1 (zbj h2 _) ?_));go_ret;exact⟨rfl,rfl⟩
 ·rw[show zok la og=zr9 ((la-og)*2500000000/1500) from if_neg h3];have r1:IntKind.i64.wrap (la-og)=la-og:=i64w;have r2:IntKind.i64.wrap ((la-og)*2500000000)=(la-og)*2500000000:=i64w;have ed:=zb9 (x:=(la-og)*2500000000) (by omega) 1500;have hn:(la-og)*2500000000/1500<=9223372036854775807:=(by omega);have r3:IntKind.i64.wrap ((la-og)*2500000000/1500)=(la-og)*2500000000/1500:=i64w;have hr:=fun w=>zpz _ _ w hn (zlc hn);obtain⟨r,hr'⟩:∃r,zr9 ((la-og)*2500000000/1500)=r:=⟨_,rfl⟩;rw[hr']at hr ⊢;clear hr';have HR:Hid (∀w:World,Calls Tryz.prog 189 #[.int .i64 ((la-og)*2500000000/1500)] w fun e w'=>e=.returned (.int .i64 r)/\w'=w):=hr;clear hr;go_enter Tryz.func166,Tryz.ntmps166;go_wp2_with (first|(go_at_call 122;refine same1 (zbj h1 _) ?_)|(go_at_call 122;refine same1 (zbj h2 _) ?_)|(go_at_call 189;(try rw[ed]);refine same1 (HR.out _) ?_));go_ret;exact⟨rfl,rfl⟩
theorem zzj{x:Int}(h:0<=x)(w:World):Calls Tryz.prog 167 #[.int .i64 x] w fun e w'=>e=.returned (.int .i64 x)/\w'=w:=by
 have h':¬x<0:=by omega
 go_enter Tryz.func167,Tryz.ntmps167;go_wp2;go_ret;exact⟨rfl,rfl⟩
theorem zha{x n:Int}(h:x = -n)(h0:0<n)(h1:n<=1000000)(w:World):Calls Tryz.prog 167 #[.int .i64 x] w fun e w'=>e=.returned (.int .i64 n)/\w'=w:=by
 have h':x<0:=by omega
 have e0:IntKind.i64.wrap (-x)=n:=i64w
 go_enter Tryz.func167,Tryz.ntmps167;go_wp2;go_ret;exact⟨rfl,rfl⟩
theorem md10{N:Int}(h0:0<=N)(h1:N<=1000000000000000000)(w:World):Calls Tryz.prog 168 #[.int .i64 N,.int .i64 6000,.int .i64 10000000000] w fun e w'=>e=.returned (.tuple #[.int .i64 (N*6000/10000000000),.bool true])/\w'=w:=by
 have hk:zlm N 6000 10000000000=true:=by unfold zlm;exact decide_eq_true (by omega)
 have hq:mdQ N 6000 10000000000=N*6000/10000000000:=by unfold mdQ;rw[hk];rfl
 have:=zfi N 6000 10000000000 w (by omega) (by omega) (by omega);rwa[hk,hq]at this
theorem zlx(la og ms:Int)(w:World)(h:zdo la og = -1):Calls Tryz.prog 137 #[.int .i64 la,.int .i64 og,.int .i64 ms] w fun e w'=>e=.returned (.int .i64 (-1))/\w'=w:=by have hT:=zc8 la og;rw[h]at hT;go_enter Tryz.func137,Tryz.ntmps137;go_wp2_with (first|(go_at_call 166;refine same1 (hT _) ?_));go_ret;exact⟨rfl,rfl⟩
theorem zzk{x:Int}{f:Bool}(h:zm7 x=f)(w:World):Calls Tryz.prog 48 #[.int .i64 x,.int .i64 0,.int .i64 1000000] w fun e w'=>e=.returned (.bool f)/\w'=w:=by subst h;exact zey 0 x 1000000 w
section
variable(la og ms:Int)(w:World)
theorem zly{k:Int}(hk:zdo la og=k)(h0:0<=k)(h:zm7 ms=false):Calls Tryz.prog 137 #[.int .i64 la,.int .i64 og,.int .i64 ms] w fun e w'=>e=.returned (.int .i64 (-1))/\w'=w:=by
 have hT:=zc8 la og;rw[hk]at hT;clear hk;have h0':¬k<0:=by omega
 go_enter Tryz.func137,Tryz.ntmps137;go_wp2_with (first|(go_at_call 166;refine same1 (hT _) ?_)|(go_at_call 48;refine same1 (zzk h _) ?_));go_ret;exact⟨rfl,rfl⟩
theorem zm8{k:Int}(hk:zdo la og=k)(h0:0<=k)(hm:zm7 ms=true)(hd:k<=ms)(l0:0<=la)(l1:la<=1000000000):
 Calls Tryz.prog 137 #[.int .i64 la,.int .i64 og,.int .i64 ms] w fun e w'=>e=.returned (.int .i64 (min 1000000000 (max 0 (la+zp0 (ms-k)))))/\w'=w:=by
 have hT:=zc8 la og;rw[hk]at hT;clear hk;have h0':¬k<0:=by omega
 have hm':=hm;unfold zm7 at hm';simp only[bae,decide_eq_true_eq]at hm';obtain⟨m0,m1⟩:=hm';have r1:IntKind.i64.wrap (ms-k)=ms-k:=i64w
 obtain⟨n,hn⟩:∃n,ms-k=n:=⟨_,rfl⟩;have n0:0<=n:=by omega
 have n1:n<=1000000:=by omega
 rw[hn]at r1 ⊢;have hn':¬n<0:=by omega
 obtain⟨⟨a0,a1⟩,b0,b1⟩:=ztz n0 n1;have s2:IntKind.i64.wrap (n*n)=n*n:=i64w
 have s3:IntKind.i64.wrap (n*n*n)=n*n*n:=i64w
 have hM:=fun w=>md10 b0 b1 w;have hX:zp0 n=n*n*n*6000/10000000000:=rfl;obtain⟨X,hx⟩:∃X,n*n*n*6000/10000000000=X:=⟨_,rfl⟩;have X0:0<=X:=by omega
 have X1:X<=1000000000000:=by omega
 rw[hx]at hM hX;rw[hX];clear hX hx;have s4:IntKind.i64.wrap (la+X)=la+X:=i64w
 go_enter Tryz.func137,Tryz.ntmps137;go_wp2_with (first|(go_at_call 166;refine same1 (hT _) ?_)|(go_at_call 48;refine same1 (zzk hm _) ?_)|(go_at_call 167;(try rw[hn]);refine same1 (zzj n0 _) ?_)|(go_at_call 168;refine same1 (hM _) ?_)|(go_at_call 83;refine same1 (zay _ _ _) ?_)|(go_at_call 84;refine same1 (zbg _ _ _) ?_));go_ret;exact⟨rfl,rfl⟩
theorem zkl{k:Int}(hk:zdo la og=k)(h0:0<=k)(k1:k<=1000000)(hm:zm7 ms=true)(hd:ms<k)(l0:0<=la)(l1:la<=1000000000):
 Calls Tryz.prog 137 #[.int .i64 la,.int .i64 og,.int .i64 ms] w fun e w'=>e=.returned (.int .i64 (min 1000000000 (max 0 (la+zp0 (ms-k)))))/\w'=w:=by
 have hT:=zc8 la og;rw[hk]at hT;clear hk;have h0':¬k<0:=by omega
 have hm':=hm;unfold zm7 at hm';simp only[bae,decide_eq_true_eq]at hm';obtain⟨m0,m1⟩:=hm';obtain⟨n,hn⟩:∃n,k-ms=n:=⟨_,rfl⟩;have n0:0<n:=by omega
 have n1:n<=1000000:=by omega
 have hd':ms-k = -n:=by omega
 have r1:IntKind.i64.wrap (ms-k)=ms-k:=i64w
 have hneg:ms-k<0:=by omega
 obtain⟨⟨a0,a1⟩,b0,b1⟩:=ztz (show 0<=n by omega) n1;have s2:IntKind.i64.wrap (n*n)=n*n:=i64w
 have s3:IntKind.i64.wrap (n*n*n)=n*n*n:=i64w
 have hM:=fun w=>md10 b0 b1 w;obtain⟨y,hy⟩:∃y,y=n*n*n%10000000000*4*1500%10000000000:=⟨_,rfl⟩;have hX:=zw2 hy;rw[<-hd']at hX;rw[hX];clear hX;have t1:(n*n*n).tmod 10000000000=n*n*n%10000000000:=Int.tmod_eq_emod_of_nonneg b0;obtain⟨r,hr⟩:∃r,n*n*n%10000000000=r:=⟨_,rfl⟩;have q0:0<=r:=by omega
 have q1:r<10000000000:=by omega
 obtain⟨X,hx⟩:∃X,n*n*n*6000/10000000000=X:=⟨_,rfl⟩;have X0:0<=X:=by omega
 have X1:X<=1000000000000:=by omega
 rw[hr]at t1 hy;rw[hx]at hM ⊢;clear hr hx;have s4:IntKind.i64.wrap (r*4)=r*4:=i64w
 have s5:IntKind.i64.wrap (r*4*1500)=r*4*1500:=i64w
 have t2:(r*4*1500).tmod 10000000000=r*4*1500%10000000000:=Int.tmod_eq_emod_of_nonneg (by omega);rw[<-hy]at t2;by_cases hy0:y=0
 ·rw[if_pos hy0];subst hy0;have s6:IntKind.i64.wrap (-X) = -X:=i64w;have s7:IntKind.i64.wrap (la+-X)=la+-X:=i64w;clear hy;go_enter Tryz.func137,Tryz.ntmps137;go_wp2_with (first|(go_at_call 166;refine same1 (hT _) ?_)|(go_at_call 48;refine same1 (zzk hm _) ?_)|(go_at_call 167;refine same1 (zha hd' n0 n1 _) ?_)|(go_at_call 167;refine same1 (zha (x:=-n) rfl n0 n1 _) ?_)|(go_at_call 168;refine same1 (hM _) ?_)|(go_at_call 83;refine same1 (zay _ _ _) ?_)|(go_at_call 84;refine same1 (zbg _ _ _) ?_));go_ret;exact⟨rfl,rfl⟩
 ·rw[if_neg hy0];have s6:IntKind.i64.wrap (X+1)=X+1:=i64w;have s7:IntKind.i64.wrap (-(X+1)) = -(X+1):=i64w;have s8:IntKind.i64.wrap (la+-(X+1))=la+-(X+1):=i64w;clear hy;go_enter Tryz.func137,Tryz.ntmps137;go_wp2_with (first|(go_at_call 166;refine same1 (hT _) ?_)|(go_at_call 48;refine same1 (zzk hm _) ?_)|(go_at_call 167;refine same1 (zha hd' n0 n1 _) ?_)|(go_at_call 167;refine same1 (zha (x:=-n) rfl n0 n1 _) ?_)|(go_at_call 168;refine same1 (hM _) ?_)|(go_at_call 83;refine same1 (zay _ _ _) ?_)|(go_at_call 84;refine same1 (zbg _ _ _) ?_));go_ret;exact⟨rfl,rfl⟩
theorem zdp:Calls Tryz.prog 137 #[.int .i64 la,.int .i64 og,.int .i64 ms] w fun e w'=>e=.returned (.int .i64 (ze0 la og ms))/\w'=w:=by
 by_cases h12:ze7 la=true/\ze7 og=true
 ·have hk:zdo la og=zok la og:=if_pos h12;obtain⟨l0,l1⟩:=zc7 h12.1;obtain⟨o0,o1⟩:=zc7 h12.2;obtain⟨k0,k1⟩:=zi0 o0 l1;cases hm:zm7 ms
  ·rw[show ze0 la og ms = -1 from if_neg (fun h=>by rw[hm]at h;cases h.2)];exact zly la og ms w hk k0 hm
  ·rw[show ze0 la og ms=zln la og ms from if_pos ⟨h12,hm⟩];unfold zln;rcases Int.lt_or_le ms (zok la og) with hd|hd
   ·exact zkl la og ms w hk k0 k1 hm hd l0 l1
   ·exact zm8 la og ms w hk k0 hm hd l0 l1
 ·rw[show ze0 la og ms = -1 from if_neg (fun h=>h12 h.1)];exact zlx la og ms w (if_neg h12)
end
end Go.Proofs.YthiojkjcmhojoaaGreat
