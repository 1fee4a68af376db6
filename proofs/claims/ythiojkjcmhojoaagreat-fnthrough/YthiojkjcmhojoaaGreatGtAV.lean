import Derived.Test.YthiojkjcmhojoaaGreatGtAR
import Derived.Test.YthiojkjcmhojoaaGreatGtAF
import Derived.Deep.CutRange
namespace Go.Proofs.YthiojkjcmhojoaaGreat
open Go.ChangeShapes Go.WideShapes Go.ChangeAt Go.RowKit
set_option maxRecDepth 100000
set_option linter.all false
structure TSt (B:Nat) (a0:Option Addr) (len cap b:Nat) (w wr:World) (v:Value) (T:List Q4):Prop where
 cur:Cur B a0 len cap b wr
 only:Only b w wr
 lt:b<w.heap.size
 own:wr.ownsRow w.heap.size 110 4 v T.length (za5 T)
section
variable {B:Nat} {a0:Option Addr} {len cap b:Nat} {w wr:World} {v:Value} {T:List Q4}
theorem TSt.draw(d:TSt B a0 len cap b w wr v T){w2:World}(o:Only b wr w2)(k:Cur B a0 len cap b w2):TSt B a0 len cap b w w2 v T :=
 ⟨k,d.only.trans o,d.lt,zty d.own o d.lt⟩
theorem TSt.next(d:TSt B a0 len cap b w wr v T){w2:World}(h:Bw wr w2):TSt B a0 len cap b w w2 v T:=d.draw (Only.of_below h) (d.cur.mono h)
theorem zzm{b:Nat}{w wr w2:World}(o:Only b w wr)(h:Below w.heap.size wr w2):Only b w w2 :=
 ⟨h.os.trans o.os,h.tape.trans o.tape,h.output.trans o.output,ntr o.size h.size,fun k hk hn=>(h.block k hk).trans (o.block k hk hn)⟩
theorem TSt.list(d:TSt B a0 len cap b w wr v T){w2:World}(h:Below w.heap.size wr w2){v':Value}{T':List Q4}(ho:w2.ownsRow w.heap.size 110 4 v' T'.length (za5 T')):TSt B a0 len cap b w w2 v' T' :=
 ⟨d.cur.under h d.lt,zzm d.only h,d.lt,ho⟩
theorem TSt.below(d:TSt B a0 len cap b w wr v T){w2:World}{row:Option Nat}(hg:wr.grownBy w2 row)(hr:∀g,row=some g->w.heap.size<=g):Below w.heap.size wr w2 :=
 (brf _ _).grown hg d.only.size hr
end
def DOk(T:List Q4)(S:List Int):Prop:=S.length=T.length/\1<=T.length/\∀k (h:k<T.length) (h':k<S.length),0<=S[k]/\S[k]<=T[k].2.2.1/\T[k].2.2.1<=2000000
theorem DOk.one{x y z:Int}(hx:0<=x)(hy:x<=y)(hz:y<=2000000):DOk [(-1,x,y,z)] [x]:=by
 refine⟨rfl,by simp,fun k h h'=>?_⟩;have e:k=0:=by simpa using h
 subst e;exact⟨hx,hy,hz⟩
theorem DOk.more{T:List Q4}{S:List Int}(d:DOk T S){p:Nat}(hp:p<T.length)(hp':p<S.length){r x z:Int}(hr:0<=r)(hs:r<=S[p])(hx:0<=x)(hc:r+x<=2000000):DOk (T ++ [((p:Int),r,r+x,z)]) (S.set p (S[p]-r) ++ [r]):=by
 obtain⟨h1,h2,h3⟩:=d;refine⟨by simp[h1],by simp,fun k h h'=>?_⟩;by_cases hk:k<T.length
 ·have hk':k<S.length:=(by omega);have e1:(T ++ [((p:Int),r,r+x,z)])[k]=T[k]:=List.getElem_append_left hk;have e2:(S.set p (S[p]-r) ++ [r])[k]=(S.set p (S[p]-r))[k]'(by simpa using hk'):=List.getElem_append_left (by simpa using hk');have h4:=h3 k hk hk';rw[e1,e2,List.getElem_set];split
  ·rename_i e;subst e;omega
  ·exact h4
 ·have e:k=T.length:=(by have:k<T.length+1:=(by simpa using h);omega);subst e;have e1:(T ++ [((p:Int),r,r+x,z)])[T.length]=((p:Int),r,r+x,z):=(by simp);have e2:(S.set p (S[p]-r) ++ [r])[T.length]?=some r:=(by rw[List.getElem?_append_right (by simp[h1])];simp[h1]);have e3:(S.set p (S[p]-r) ++ [r])[T.length]=r:=(by have:=List.getElem?_eq_getElem h';rw[this]at e2;exact osi e2);rw[e1,e3];simp only;omega
theorem zxf(S:List Int)(p:Nat)(x:Int):(zbc S).set p (.int .i64 x)=zbc (S.set p x):=by unfold zbc;rw[List.map_set]
theorem zzn{S:List Int}{p:Nat}(h:p<S.length):(zbc S)[p]?=some (.int .i64 S[p]):=by unfold zbc;rw[List.getElem?_map,List.getElem?_eq_getElem h];rfl
theorem zxg{w:World}{g:Nat}{u0 u1 u2 u3:Value}(h0:w.cell? ⟨g,0,none⟩=some u0)(h1:w.cell? ⟨g,1,none⟩=some u1)(h2:w.cell? ⟨g,2,none⟩=some u2)(h3:w.cell? ⟨g,3,none⟩=some u3):∀j v,[u0,u1,u2,u3][j]?=some v->w.cell? ((⟨g,0,none⟩:Addr).add j)=some v:=by
 intro j v hv;match j,hv with
 | 0,hv=>obtain rfl:u0=v:=by simpa using hv
         exact h0
 | 1,hv=>obtain rfl:u1=v:=by simpa using hv
         exact h1
 | 2,hv=>obtain rfl:u2=v:=by simpa using hv
         exact h2
 | 3,hv=>obtain rfl:u3=v:=by simpa using hv
         exact h3
theorem zql(w:World)(lo:Nat)(h:lo<=w.heap.size)(p r c u:Int):(w.alloc (.cells #[.int .i64 p,.int .i64 r,.int .i64 c,.int .i64 u] 110)).ownsRow lo 110 4 (.slice (some ⟨w.heap.size,0,none⟩) 1 1) 1 (za5 [(p,r,c,u)]) :=
 ⟨rfl,.inr ⟨w.heap.size,1,#[.int .i64 p,.int .i64 r,.int .i64 c,.int .i64 u],rfl,h,heap_alloc_new _ _,nrf _,by unfold maxLen;omega,rfl,rfl⟩⟩
theorem zvm(w:World)(lo:Nat)(h:lo<=w.heap.size)(x:Int):(w.alloc (.cells #[.int .i64 x] 2)).ownsRow lo 2 1 (.slice (some ⟨w.heap.size,0,none⟩) 1 1) 1 (zbc [x]) :=
 ⟨rfl,.inr ⟨w.heap.size,1,#[.int .i64 x],rfl,h,heap_alloc_new _ _,nrf _,by unfold maxLen;omega,rfl,rfl⟩⟩
end Go.Proofs.YthiojkjcmhojoaaGreat
