import Derived.Test.YthiojkjcmhojoaaGreatGfAF
import Derived.Lib.SmallJoins
import Derived.Test.YthiojkjcmhojoaaGreatGfAD
namespace Go.Proofs.YthiojkjcmhojoaaGreat
set_option maxHeartbeats 4000000
open Go.ChangeShapes Go.WideShapes Go.ChangeAt Go.RowKit
set_option maxRecDepth 100000
set_option linter.unusedVariables false
set_option linter.unusedSimpArgs false
section
variable {H:Type} {enc:TypeId × Value→H} {P:Program} {w:World} {sp:Nat→Bool} {held:Bool}
end
theorem zdz {w:World} {g:Nat} {a b c d:Value} (h0:w.cell? ⟨g,0,none⟩=some a) (h1:w.cell? ⟨g,1,none⟩=some b) (h2:w.cell? ⟨g,2,none⟩=some c) (h3:w.cell? ⟨g,3,none⟩=some d):∀j v,[a,b,c,d][j]?=some v→w.cell? ⟨g,j,none⟩=some v:=by
 intro j v hv
 match j,hv with
 | 0,hv=>obtain rfl:a=v:=by simpa using hv
         exact h0
 | 1,hv=>obtain rfl:b=v:=by simpa using hv
         exact h1
 | 2,hv=>obtain rfl:c=v:=by simpa using hv
         exact h2
 | 3,hv=>obtain rfl:d=v:=by simpa using hv
         exact h3
theorem zcl {w:World} {a:Addr} {u:Value} (v:Value) (h:w.cell? a=some u):(w.setCell a v).cell? a=some v:=World.cell?_setCell_same' w a v (by rw [h];rfl)
theorem zar {w:World} {b i j:Nat} {v:Value} (h:i≠j):(w.setCell ⟨b,i,none⟩ v).cell? ⟨b,j,none⟩=w.cell? ⟨b,j,none⟩:=by
 apply World.cell?_setCell_other
 intro e
 injection e with _ e _
 exact h e
theorem zeu {w:World} {g:Nat} {u0 u1 u2 u3:Value} (a b c d:Value) (h0:w.cell? ⟨g,0,none⟩=some u0) (h1:w.cell? ⟨g,1,none⟩=some u1) (h2:w.cell? ⟨g,2,none⟩=some u2) (h3:w.cell? ⟨g,3,none⟩=some u3) :
 ∀j v,[a,b,c,d][j]?=some v→((((w.setCell ⟨g,0,none⟩ a).setCell ⟨g,1,none⟩ b).setCell ⟨g,2,none⟩ c).setCell ⟨g,3,none⟩ d).cell? ⟨g,j,none⟩=some v :=
 zdz ((zar (by decide)).trans ((zar (by decide)).trans ((zar (by decide)).trans (zcl _ h0))))
  ((zar (by decide)).trans ((zar (by decide)).trans (zcl _ ((zar (by decide)).trans h1))))
  ((zar (by decide)).trans (zcl _ ((zar (by decide)).trans ((zar (by decide)).trans h2))))
  (zcl _ ((zar (by decide)).trans ((zar (by decide)).trans ((zar (by decide)).trans h3))))
theorem za0 {w w':World} (h:Below w.heap.size w w'):∀b o:Nat,b<w.heap.size→w'.cell? ⟨b,o,none⟩=w.cell? ⟨b,o,none⟩:=fun b o hb=>h.cell (by exact hb)
theorem zbd {w w':World} (h:Below w.heap.size w w'):∀b o:Nat,b<w.heap.size→w'.frozen? ⟨b,o,none⟩=w.frozen? ⟨b,o,none⟩:=fun b o hb=>h.frozen (by exact hb)
theorem zaa {w x y:World} (h:Below w.heap.size w x) (k:Below x.heap.size x y):Below w.heap.size w y:=h.trans (k.mono h.size)
theorem zor {w w':World} {A B:Obj} (h:Below ((w.alloc A).alloc B).heap.size ((w.alloc A).alloc B) w'):Below w.heap.size w w':=zaa (by go_grown) h
theorem zos {w w':World} {A B:Obj} (h:Below ((w.alloc A).alloc B).heap.size ((w.alloc A).alloc B) w'):w.heap.size+1<w'.heap.size:=by
 have:=h.size
 simp at this
 omega
section
variable {H:Type} {enc:TypeId × Value→H} {P:Program} {w:World} {sp:Nat→Bool} {held:Bool}
end
theorem zbm {w:World} {g:Nat} {c0 c1 c2 c3 c4 c5 c6 c7 c8 c9:Value} (h0:w.cell? ⟨g,0,none⟩=some c0) (h1:w.cell? ⟨g,1,none⟩=some c1) (h2:w.cell? ⟨g,2,none⟩=some c2) (h3:w.cell? ⟨g,3,none⟩=some c3) (h4:w.cell? ⟨g,4,none⟩=some c4) (h5:w.cell? ⟨g,5,none⟩=some c5) (h6:w.cell? ⟨g,6,none⟩=some c6) (h7:w.cell? ⟨g,7,none⟩=some c7) (h8:w.cell? ⟨g,8,none⟩=some c8) (h9:w.cell? ⟨g,9,none⟩=some c9):∀j v,[c0,c1,c2,c3,c4,c5,c6,c7,c8,c9][j]?=some v→w.cell? ⟨g,j,none⟩=some v:=by
 intro j v hv
 match j,hv with
 | 0,hv=>obtain rfl:c0=v:=by simpa using hv
         exact h0
 | 1,hv=>obtain rfl:c1=v:=by simpa using hv
         exact h1
 | 2,hv=>obtain rfl:c2=v:=by simpa using hv
         exact h2
 | 3,hv=>obtain rfl:c3=v:=by simpa using hv
         exact h3
 | 4,hv=>obtain rfl:c4=v:=by simpa using hv
         exact h4
 | 5,hv=>obtain rfl:c5=v:=by simpa using hv
         exact h5
 | 6,hv=>obtain rfl:c6=v:=by simpa using hv
         exact h6
 | 7,hv=>obtain rfl:c7=v:=by simpa using hv
         exact h7
 | 8,hv=>obtain rfl:c8=v:=by simpa using hv
         exact h8
 | 9,hv=>obtain rfl:c9=v:=by simpa using hv
         exact h9
abbrev Q4:=Int × Int × Int × Int
def Quad (B:Nat) (w:World) (a:Option Addr) (xs:List Q4):Prop :=
 ∀i (h:i<xs.length),∃b off,a=some ⟨b,off,none⟩∧b<B∧w.cell? ⟨b,off+i*4,none⟩=some (.int .i64 xs[i].1)∧w.cell? ⟨b,off+i*4+1,none⟩=some (.int .i64 xs[i].2.1)∧w.cell? ⟨b,off+i*4+2,none⟩=some (.int .i64 xs[i].2.2.1)∧w.cell? ⟨b,off+i*4+3,none⟩=some (.int .i64 xs[i].2.2.2)
theorem Quad.nil (B:Nat) (w:World) (a:Option Addr):Quad B w a []:=fun i h=>by cases h
theorem Quad.at {B:Nat} {w:World} {a:Option Addr} {xs:List Q4} (h:Quad B w a xs) {w':World} (hb:Below B w w') (k:Nat) (hk:k<xs.length) :
 ∃b off,a=some ⟨b,off,none⟩∧b<B∧w'.cell? ⟨b,off+k*4,none⟩=some (.int .i64 xs[k].1)∧w'.cell? ⟨b,off+k*4+1,none⟩=some (.int .i64 xs[k].2.1)∧w'.cell? ⟨b,off+k*4+2,none⟩=some (.int .i64 xs[k].2.2.1)∧w'.cell? ⟨b,off+k*4+3,none⟩=some (.int .i64 xs[k].2.2.2):=by
 obtain ⟨b,off,e,hlt,c0,c1,c2,c3⟩:=h k hk
 exact ⟨b,off,e,hlt,(hb.cell (by exact hlt)).trans c0,(hb.cell (by exact hlt)).trans c1,(hb.cell (by exact hlt)).trans c2,(hb.cell (by exact hlt)).trans c3⟩
theorem Quad.mono {B:Nat} {w w':World} {a:Option Addr} {xs:List Q4} (h:Quad B w a xs) (hb:Below B w w'):Quad B w' a xs:=fun i hi=>h.at hb i hi
theorem Quad.up {B B':Nat} {w:World} {a:Option Addr} {xs:List Q4} (h:Quad B w a xs) (hb:B≤B'):Quad B' w a xs:=fun i hi=>by
 obtain ⟨b,off,e,hl,c⟩:=h i hi
 exact ⟨b,off,e,Nat.lt_of_lt_of_le hl hb,c⟩
theorem Quad.here {w x:World} {a:Option Addr} {xs:List Q4} (h:Quad w.heap.size w a xs) (hb:Below w.heap.size w x):Quad x.heap.size x a xs:=(h.mono hb).up hb.size
theorem Quad.cells {B b off:Nat} {w:World} {xs:List Q4} (h:Quad B w (some ⟨b,off,none⟩) xs) {w':World} (hb:Below B w w') (k:Nat) (hk:k<xs.length) :
 w'.cell? ⟨b,off+k*4,none⟩=some (.int .i64 xs[k].1)∧w'.cell? ⟨b,off+k*4+1,none⟩=some (.int .i64 xs[k].2.1)∧w'.cell? ⟨b,off+k*4+2,none⟩=some (.int .i64 xs[k].2.2.1)∧w'.cell? ⟨b,off+k*4+3,none⟩=some (.int .i64 xs[k].2.2.2):=by
 obtain ⟨b',off',e,_,c⟩:=h.at hb k hk
 cases e
 exact c
structure QFill (w:World) (g n:Nat) (xs:List Q4) (k:Nat):Prop where
 any:∀j,j<n*4→(∃z:Int,w.cell? ⟨g,j,none⟩=some (.int .i64 z))∧w.frozen? ⟨g,j,none⟩=false
 got:∀i (h:i<xs.length),i<k→w.cell? ⟨g,i*4,none⟩=some (.int .i64 xs[i].1)∧w.cell? ⟨g,i*4+1,none⟩=some (.int .i64 xs[i].2.1)∧w.cell? ⟨g,i*4+2,none⟩=some (.int .i64 xs[i].2.2.1)∧w.cell? ⟨g,i*4+3,none⟩=some (.int .i64 xs[i].2.2.2)
theorem QFill.mono {w w':World} {g n k:Nat} {xs:List Q4} (f:QFill w g n xs k) (h:Below w.heap.size w w') (hg:g<w.heap.size):QFill w' g n xs k where
 any:=fun j hj=>by
  obtain ⟨⟨z,hz⟩,hf⟩:=f.any j hj
  exact ⟨⟨z,(h.cell (by exact hg)).trans hz⟩,(h.frozen (by exact hg)).trans hf⟩
 got:=fun i hi hk=>by
  obtain ⟨c0,c1,c2,c3⟩:=f.got i hi hk
  exact ⟨(h.cell (by exact hg)).trans c0,(h.cell (by exact hg)).trans c1,(h.cell (by exact hg)).trans c2,(h.cell (by exact hg)).trans c3⟩
theorem QFill.onlyO {w w':World} {g n k:Nat} {xs:List Q4} {o:Option Nat} (f:QFill w g n xs k) (ho:OnlyO o w w') (hg:g<w.heap.size) (hn:o≠some g):QFill w' g n xs k where
 any:=fun j hj=>⟨by obtain ⟨z,hz⟩:=(f.any j hj).1;exact ⟨z,(ho.cell (by exact hg) (by exact hn)).trans hz⟩,(ho.frozen (by exact hg) (by exact hn)).trans (f.any j hj).2⟩
 got:=fun i hi hk=>by
  obtain ⟨c0,c1,c2,c3⟩:=f.got i hi hk
  exact ⟨(ho.cell (by exact hg) (by exact hn)).trans c0,(ho.cell (by exact hg) (by exact hn)).trans c1,(ho.cell (by exact hg) (by exact hn)).trans c2,(ho.cell (by exact hg) (by exact hn)).trans c3⟩
theorem QFill.far {w:World} {g n k:Nat} {xs:List Q4} (f:QFill w g n xs k) {p:Addr} (v:Value) (h:p.block≠g):QFill (w.setCell p v) g n xs k where
 any:=fun j hj=>⟨by obtain ⟨z,hz⟩:=(f.any j hj).1;exact ⟨z,(zal (by exact h)).trans hz⟩,by simpa using (f.any j hj).2⟩
 got:=fun i hi hk=>by
  obtain ⟨c0,c1,c2,c3⟩:=f.got i hi hk
  exact ⟨(zal (by exact h)).trans c0,(zal (by exact h)).trans c1,(zal (by exact h)).trans c2,(zal (by exact h)).trans c3⟩
theorem QFill.again {w:World} {g n k:Nat} {xs:List Q4} (f:QFill w g n xs k) (ys:List Q4):QFill w g n ys 0:=⟨f.any,fun i hi hk=>by omega⟩
theorem QFill.quad {w:World} {g n B:Nat} {xs:List Q4} (f:QFill w g n xs xs.length) (h:g<B):Quad B w (some ⟨g,0,none⟩) xs:=fun i hi=>by
 obtain ⟨c0,c1,c2,c3⟩:=f.got i hi hi
 exact ⟨g,0,rfl,h,by rw [Nat.zero_add];exact c0,by rw [Nat.zero_add];exact c1,by rw [Nat.zero_add];exact c2,by rw [Nat.zero_add];exact c3⟩
def zso (w:World) (g o:Nat) (x:Q4):World:=(((w.setCell ⟨g,o,none⟩ (.int .i64 x.1)).setCell ⟨g,o+1,none⟩ (.int .i64 x.2.1)).setCell ⟨g,o+2,none⟩ (.int .i64 x.2.2.1)).setCell ⟨g,o+3,none⟩ (.int .i64 x.2.2.2)
theorem zfn {w:World} {g o j:Nat} {x:Q4} (h:j<o∨o+3<j):(zso w g o x).cell? ⟨g,j,none⟩=w.cell? ⟨g,j,none⟩ :=
 (zaf (by omega)).trans ((zaf (by omega)).trans ((zaf (by omega)).trans (zaf (by omega))))
theorem zot {w:World} {g o:Nat} (x:Q4) {z0 z1 z2 z3:Value} (h0:w.cell? ⟨g,o,none⟩=some z0) (h1:w.cell? ⟨g,o+1,none⟩=some z1) (h2:w.cell? ⟨g,o+2,none⟩=some z2) (h3:w.cell? ⟨g,o+3,none⟩=some z3) :
 (zso w g o x).cell? ⟨g,o,none⟩=some (.int .i64 x.1)∧(zso w g o x).cell? ⟨g,o+1,none⟩=some (.int .i64 x.2.1)∧(zso w g o x).cell? ⟨g,o+2,none⟩=some (.int .i64 x.2.2.1)∧(zso w g o x).cell? ⟨g,o+3,none⟩=some (.int .i64 x.2.2.2) :=
 ⟨(zaf (by omega)).trans ((zaf (by omega)).trans ((zaf (by omega)).trans (zbt _ h0))),
  (zaf (by omega)).trans ((zaf (by omega)).trans (zbt _ ((zaf (by omega)).trans h1))),
  (zaf (by omega)).trans (zbt _ ((zaf (by omega)).trans ((zaf (by omega)).trans h2))),
  zbt _ ((zaf (by omega)).trans ((zaf (by omega)).trans ((zaf (by omega)).trans h3)))⟩
theorem zqy {w:World} {g o:Nat} (x:Q4) (a:Addr):(zso w g o x).frozen? a=w.frozen? a:=by unfold zso;simp
theorem QFill.put {w:World} {g n k:Nat} {xs:List Q4} (f:QFill w g n xs k) (hk:k<xs.length) (hn:xs.length≤n):QFill (zso w g (k*4) xs[k]) g n xs (k+1):=by
 obtain ⟨z0,h0⟩:=(f.any (k*4) (by omega)).1
 obtain ⟨z1,h1⟩:=(f.any (k*4+1) (by omega)).1
 obtain ⟨z2,h2⟩:=(f.any (k*4+2) (by omega)).1
 obtain ⟨z3,h3⟩:=(f.any (k*4+3) (by omega)).1
 obtain ⟨s0,s1,s2,s3⟩:=zot xs[k] h0 h1 h2 h3
 refine ⟨fun j hj=>⟨?_,(zqy _ _).trans (f.any j hj).2⟩,fun i hi hik=>?_⟩
 ·by_cases e0:j=k*4
  ·subst e0;exact ⟨_,s0⟩
  ·by_cases e1:j=k*4+1
   ·subst e1;exact ⟨_,s1⟩
   ·by_cases e2:j=k*4+2
    ·subst e2;exact ⟨_,s2⟩
    ·by_cases e3:j=k*4+3
     ·subst e3;exact ⟨_,s3⟩
     ·obtain ⟨z,hz⟩:=(f.any j hj).1
      exact ⟨z,(zfn (by omega)).trans hz⟩
 ·by_cases h:i=k
  ·subst h
   exact ⟨s0,s1,s2,s3⟩
  ·obtain ⟨c0,c1,c2,c3⟩:=f.got i hi (by omega)
   exact ⟨(zfn (by omega)).trans c0,(zfn (by omega)).trans c1,(zfn (by omega)).trans c2,(zfn (by omega)).trans c3⟩
theorem zkx {w:World} {g o:Nat} {x:Q4} {w0:World} (h:Only g w0 w):Only g w0 (zso w g o x):=(((h.setCell rfl _).setCell rfl _).setCell rfl _).setCell rfl _
def zaz (xs:List Q4):List Value:=xs.flatMap fun x=>[.int .i64 x.1,.int .i64 x.2.1,.int .i64 x.2.2.1,.int .i64 x.2.2.2]
theorem zgw (xs ys:List Q4):zaz (xs ++ ys)=zaz xs ++ zaz ys:=List.flatMap_append
theorem zcg (xs:List Q4):(zaz xs).length=xs.length*4:=by
 induction xs with
 | nil=>rfl
 | cons x xs ih =>
  show (zaz xs).length+1+1+1+1=_
  rw [ih,List.length_cons]
  omega
theorem zia (xs:List Q4):∀i (h:i<xs.length),(zaz xs)[i*4]?=some (.int .i64 xs[i].1)∧(zaz xs)[i*4+1]?=some (.int .i64 xs[i].2.1)∧(zaz xs)[i*4+2]?=some (.int .i64 xs[i].2.2.1)∧(zaz xs)[i*4+3]?=some (.int .i64 xs[i].2.2.2):=by
 induction xs with
 | nil=>intro i h;cases h
 | cons x xs ih =>
  intro i h
  cases i with
  | zero=>exact ⟨rfl,rfl,rfl,rfl⟩
  | succ j =>
   have hj:j<xs.length:=by simpa using h
   obtain ⟨h0,h1,h2,h3⟩:=ih j hj
   have e:∀d,(zaz (x :: xs))[(j+1)*4+d]?=(zaz xs)[j*4+d]?:=by
    intro d
    show (Value.int .i64 x.1 :: Value.int .i64 x.2.1 :: Value.int .i64 x.2.2.1 :: Value.int .i64 x.2.2.2 :: zaz xs)[(j+1)*4+d]?=_
    rw [show (j+1)*4+d=j*4+d+1+1+1+1 by omega]
    simp
   have e0:=e 0
   rw [Nat.add_zero,Nat.add_zero] at e0
   rw [e0,e 1,e 2,e 3]
   exact ⟨h0,h1,h2,h3⟩
theorem zou {xs:List Q4} {u:Value} (h:u ∈ zaz xs):∃z,u=.int .i64 z:=by
 obtain ⟨x,_,hx⟩:=List.mem_flatMap.1 h
 simp only [List.mem_cons,List.not_mem_nil,or_false] at hx
 rcases hx with rfl|rfl|rfl|rfl
 ·exact ⟨_,rfl⟩
 ·exact ⟨_,rfl⟩
 ·exact ⟨_,rfl⟩
 ·exact ⟨_,rfl⟩
theorem zcm (xs:List Q4):∀u ∈ zaz xs,u.oneCell'=true:=fun u hu=>by obtain ⟨z,rfl⟩:=zou hu;rfl
theorem zov {w:World} {base:Nat} {v:Value} {t:TypeId} {xs:List Q4} (h:w.ownsRow base t 4 v xs.length (zaz xs)) (hn:v≠.slice none 0 0) :
 ∃g cap,v=.slice (some ⟨g,0,none⟩) xs.length cap∧base≤g∧g<w.heap.size∧QFill w g xs.length xs xs.length∧xs.length≤cap:=by
 rcases h.2 with ⟨e,_⟩|⟨g,cap,cur,rfl,hb,hg,hnc,_⟩
 ·exact absurd e hn
 ·refine ⟨g,cap,rfl,hb,(h.lt g rfl).2,⟨fun j hj=>⟨?_,h.frozenAt j⟩,fun i hi _=>?_⟩,hnc⟩
  ·have hc:=h.cellAt j hj
   obtain ⟨u,hu⟩:∃u,(zaz xs)[j]?=some u:=⟨_,List.getElem?_eq_getElem (by rw [zcg];exact hj)⟩
   obtain ⟨z,rfl⟩:=zou (List.mem_of_getElem? hu)
   exact ⟨z,hc.trans hu⟩
  ·obtain ⟨h0,h1,h2,h3⟩:=zia xs i hi
   exact ⟨(h.cellAt _ (by omega)).trans h0,(h.cellAt _ (by omega)).trans h1,(h.cellAt _ (by omega)).trans h2,(h.cellAt _ (by omega)).trans h3⟩
section
variable {H:Type} {enc:TypeId × Value→H} {P:Program} {w:World} {sp:Nat→Bool} {held:Bool}
end
theorem zky {f g:Bool} (h:f=g):Ending.returned (.bool f)=.returned (.bool g):=by rw [h]
def QV (w:World) (lo:Nat) (v:Value) (xs:List Q4):Prop :=
 (∃g cap,v=.slice (some ⟨g,0,none⟩) xs.length cap∧lo≤g∧g<w.heap.size∧QFill w g xs.length xs xs.length∧xs.length≤cap)∨((∃a,v=.slice a 0 0)∧xs=[])
theorem QV.zero (w:World) (lo:Nat) (a:Option Addr):QV w lo (.slice a 0 0) []:=.inr ⟨⟨a,rfl⟩,rfl⟩
theorem QV.room {w:World} {lo:Nat} {v:Value} {xs:List Q4} (h:QV w lo v xs) :
 (∃g cap,v=.slice (some ⟨g,0,none⟩) xs.length (cap+1)∧lo≤g∧g<w.heap.size∧QFill w g xs.length xs xs.length∧xs.length≤cap+1)∨((∃a,v=.slice a 0 0)∧xs=[]):=by
 rcases h with ⟨g,cap,e,h1,h2,f,hc⟩|h
 ·cases cap with
  | zero =>
   have hy:xs=[]:=List.eq_nil_of_length_eq_zero (by omega)
   subst hy
   exact .inr ⟨⟨_,e⟩,rfl⟩
  | succ cap=>exact .inl ⟨g,cap,e,h1,h2,f,hc⟩
 ·exact .inr h
theorem QV.own {w:World} {lo:Nat} {v:Value} {xs:List Q4} (h:QV w lo v xs) {g:Nat} (hg:zgv v=some g):lo≤g∧g<w.heap.size:=by
 rcases h.room with ⟨g',cap,rfl,h1,h2,_⟩|⟨⟨a,rfl⟩,_⟩
 ·injection hg with hg
  have e:g'=g:=hg
  subst e
  exact ⟨h1,h2⟩
 ·rw [zvq] at hg
  cases hg
theorem QV.next {w w':World} {lo:Nat} {v:Value} {xs:List Q4} (h:QV w lo v xs) (hb:Below w.heap.size w w'):QV w' lo v xs:=by
 rcases h with ⟨g,cap,rfl,h1,h2,f,hc⟩|h
 ·exact .inl ⟨g,cap,rfl,h1,Nat.lt_of_lt_of_le h2 hb.size,f.mono hb h2,hc⟩
 ·exact .inr h
theorem QV.onlyO {w w':World} {lo:Nat} {o:Option Nat} {v:Value} {xs:List Q4} (h:QV w lo v xs) (hb:OnlyO o w w') (hv:∀g,zgv v=some g→o≠some g):QV w' lo v xs:=by
 rcases h.room with ⟨g,cap,rfl,h1,h2,f,hc⟩|h
 ·exact .inl ⟨g,_,rfl,h1,Nat.lt_of_lt_of_le h2 hb.size,f.onlyO hb h2 (hv g rfl),hc⟩
 ·exact .inr h
theorem QV.lower {w:World} {lo lo':Nat} {v:Value} {xs:List Q4} (h:QV w lo v xs) (hl:lo'≤lo):QV w lo' v xs:=by
 rcases h with ⟨g,cap,rfl,h1,h2,f,hc⟩|h
 ·exact .inl ⟨g,cap,rfl,Nat.le_trans hl h1,h2,f,hc⟩
 ·exact .inr h
theorem QV.quad {w:World} {lo n c:Nat} {a:Option Addr} {xs:List Q4} (h:QV w lo (.slice a n c) xs):n=xs.length∧Quad w.heap.size w a xs:=by
 rcases h with ⟨g,cap,e,h1,h2,f,hc⟩|⟨⟨a',e⟩,rfl⟩
 ·injection e with e1 e2 e3
  subst e1 e2
  exact ⟨rfl,f.quad h2⟩
 ·injection e with e1 e2 e3
  exact ⟨e2,Quad.nil _ _ _⟩
theorem QV.slice {w:World} {lo:Nat} {v:Value} {xs:List Q4} (h:QV w lo v xs):∃a c,v=.slice a xs.length c:=by
 rcases h with ⟨g,cap,rfl,_⟩|⟨⟨a,rfl⟩,rfl⟩
 ·exact ⟨_,_,rfl⟩
 ·exact ⟨a,0,rfl⟩
theorem zel {w:World} {base:Nat} {v:Value} {t:TypeId} {xs:List Q4} (h:w.ownsRow base t 4 v xs.length (zaz xs)):QV w base v xs:=by
 by_cases hn:v=.slice none 0 0
 ·rcases h.2 with ⟨_,e2⟩|⟨g,cap,cur,e,_⟩
  ·exact .inr ⟨⟨none,hn⟩,List.eq_nil_of_length_eq_zero e2⟩
  ·rw [e] at hn
   injection hn with hn
   cases hn
 ·obtain ⟨g,cap,rfl,h1,h2,f,hc⟩:=zov h hn
  exact .inl ⟨g,cap,rfl,h1,h2,f,hc⟩
structure LV (w:World) (lo:Nat) (sT sO sP:Value) (T O P:List Q4):Prop where
 t:QV w lo sT T
 o:QV w lo sO O
 p:QV w lo sP P
 to:∀g,zgv sT=some g→zgv sO≠some g
 tp:∀g,zgv sT=some g→zgv sP≠some g
 op:∀g,zgv sO=some g→zgv sP≠some g
theorem LV.next {w w':World} {lo:Nat} {sT sO sP:Value} {T O P:List Q4} (h:LV w lo sT sO sP T O P) (hb:Below w.heap.size w w'):LV w' lo sT sO sP T O P:=⟨h.t.next hb,h.o.next hb,h.p.next hb,h.to,h.tp,h.op⟩
theorem LV.lower {w:World} {lo lo':Nat} {sT sO sP:Value} {T O P:List Q4} (h:LV w lo sT sO sP T O P) (hl:lo'≤lo):LV w lo' sT sO sP T O P:=⟨h.t.lower hl,h.o.lower hl,h.p.lower hl,h.to,h.tp,h.op⟩
theorem LV.zero (w:World) (lo:Nat):LV w lo (.slice none 0 0) (.slice none 0 0) (.slice none 0 0) [] [] []:=⟨QV.zero _ _ _,QV.zero _ _ _,QV.zero _ _ _,fun g h=>(by cases h),fun g h=>(by cases h),fun g h=>(by cases h)⟩
def zl9 (x:Int):Bool:=decide (0≤x) && decide (x≤1000000000)
def zfo (x:Int):Bool:=decide (1≤x) && decide (x≤1500)
def zve (u l:Int):Bool:=decide (0≤l) && decide (l≤1000000000*u)
def zgn (r u l t:Int):Bool:=((zc2 r && zl9 u) && zve u l) && zau t
theorem ziy {x:Int} (h:zl9 x=true):0≤x∧x≤1000000000:=by simpa [zl9] using h
theorem zi0 {x:Int} (h:zfo x=true):1≤x∧x≤1500:=by simpa [zfo] using h
theorem z0u {u l:Int} (h:zve u l=true):0≤l∧l≤1000000000*u:=by simpa [zve] using h
theorem zey {x:Int} (h:zau x=true):0≤x∧x≤1000000000000000:=by simpa [zau] using h
theorem z0v {x:Int} (h:zc2 x=true):0≤x∧x≤1000000000000:=by simpa [zc2] using h
theorem zdl {r u l t:Int} (h:zgn r u l t=true):(0≤r∧r≤1000000000000)∧(0≤u∧u≤1000000000)∧(0≤l∧l≤1000000000*u)∧(0≤t∧t≤1000000000000000):=by
 unfold zgn at h
 rw [Bool.and_eq_true,Bool.and_eq_true,Bool.and_eq_true] at h
 exact ⟨z0v h.1.1.1,ziy h.1.1.2,z0u h.1.2,zey h.2⟩
theorem zfp (x:Int) (w:World):Calls Tryz.prog 122 #[.int .i64 x] w fun e w'=>e=.returned (.bool (zl9 x))∧w'=w:=by
 go_enter Tryz.func122,Tryz.ntmps122
 go_wp2_with (first|(go_at_call 48;refine (zew _ _ _ _).mono ?_;rintro e w2 ⟨rfl,rfl⟩))
 go_ret
 exact ⟨rfl,rfl⟩
theorem z0w (x:Int) (w:World):Calls Tryz.prog 71 #[.int .i64 x] w fun e w'=>e=.returned (.bool (zfo x))∧w'=w:=by
 go_enter Tryz.func71,Tryz.ntmps71
 go_wp2_with (first|(go_at_call 48;refine (zew _ _ _ _).mono ?_;rintro e w2 ⟨rfl,rfl⟩))
 go_ret
 exact ⟨rfl,rfl⟩
theorem zvv (x y:Int) (w:World):Calls Tryz.prog 84 #[.int .i64 x,.int .i64 y] w fun e w'=>e=.returned (.int .i64 (min x y))∧w'=w:=by
 by_cases h:x<y
 ·rw [Int.min_eq_left (by omega)]
  go_enter Tryz.func84,Tryz.ntmps84
  go_wp2
  go_ret
  exact ⟨rfl,rfl⟩
 ·rw [Int.min_eq_right (by omega)]
  go_enter Tryz.func84,Tryz.ntmps84
  go_wp2
  go_ret
  exact ⟨rfl,rfl⟩
theorem zjw (r u l t:Int) (w:World):Calls Tryz.prog 145 #[.agg #[.int .i64 r,.int .i64 u,.int .i64 l,.int .i64 t]] w fun e w'=>e=.returned (.bool (zgn r u l t))∧Below w.heap.size w w':=by
 unfold zgn
 cases h1:zc2 r
 ·go_enter Tryz.func145,Tryz.ntmps145
  go_wp2_with (first|(go_at_call 144;refine (zf7 _ _).mono ?_;rintro e w2 ⟨rfl,rfl⟩;rw [h1]))
  go_ret
  exact ⟨rfl,by go_grown⟩
 ·cases h2:zl9 u
  ·go_enter Tryz.func145,Tryz.ntmps145
   go_wp2_with (first|(go_at_call 144;refine (zf7 _ _).mono ?_;rintro e w2 ⟨rfl,rfl⟩;rw [h1])|(go_at_call 122;refine (zfp _ _).mono ?_;rintro e w2 ⟨rfl,rfl⟩;rw [h2]))
   go_ret
   exact ⟨rfl,by go_grown⟩
  ·have n2:=ziy h2
   cases h3:zve u l
   ·go_enter Tryz.func145,Tryz.ntmps145
    go_wp2_with (first
     | (go_at_call 144;refine (zf7 _ _).mono ?_;rintro e w2 ⟨rfl,rfl⟩;rw [h1])
     | (go_at_call 122;refine (zfp _ _).mono ?_;rintro e w2 ⟨rfl,rfl⟩;rw [h2])
     | (go_at_call 48;refine (zew _ _ _ _).mono ?_;rintro e w2 ⟨rfl,rfl⟩;rw [show (decide (0≤l) && decide (l≤1000000000*u))=false from h3]))
    go_ret
    exact ⟨rfl,by go_grown⟩
   ·go_enter Tryz.func145,Tryz.ntmps145
    go_wp2_with (first
     | (go_at_call 144;refine (zf7 _ _).mono ?_;rintro e w2 ⟨rfl,rfl⟩;rw [h1])
     | (go_at_call 122;refine (zfp _ _).mono ?_;rintro e w2 ⟨rfl,rfl⟩;rw [h2])
     | (go_at_call 48;refine (zew _ _ _ _).mono ?_;rintro e w2 ⟨rfl,rfl⟩;rw [show (decide (0≤l) && decide (l≤1000000000*u))=true from h3])
     | (go_at_call 89;refine (zkm _ _).mono ?_;rintro e w2 ⟨rfl,rfl⟩))
    go_ret
    exact ⟨rfl,by go_grown⟩
abbrev bkV (a:Int × Int × Int × Int):Value:=.agg #[.int .i64 a.1,.int .i64 a.2.1,.int .i64 a.2.2.1,.int .i64 a.2.2.2]
def zjk (r u t:Int):Bool:=(zc2 r && zl9 u) && zau t
def zow (r u t:Int):Int × Int × Int × Int:=if zjk r u t=true then (r,u,1000000000*u,t) else (0,0,0,0)
theorem zox (r u t:Int) (w:World):Calls Tryz.prog 193 #[.int .i64 r,.int .i64 u,.int .i64 t] w fun e w'=>e=.returned (.tuple #[bkV (zow r u t),.bool (zjk r u t)])∧Below w.heap.size w w':=by
 have no:zjk r u t=false→Calls Tryz.prog 193 #[.int .i64 r,.int .i64 u,.int .i64 t] w fun e w'=>e=.returned (.tuple #[.agg #[.int .i64 0,.int .i64 0,.int .i64 0,.int .i64 0],.bool false])∧Below w.heap.size w w':=by
  intro h
  cases h1:zc2 r <;> cases h2:zl9 u <;> cases h3:zau t
  all_goals first
   | (exfalso;unfold zjk at h;rw [h1,h2,h3] at h;cases h;done)
   | (go_enter Tryz.func193,Tryz.ntmps193
      go_wp2_with (first|(go_at_call 144;refine (zf7 _ _).mono ?_;rintro e w2 ⟨rfl,rfl⟩;rw [h1])|(go_at_call 122;refine (zfp _ _).mono ?_;rintro e w2 ⟨rfl,rfl⟩;rw [h2])|(go_at_call 89;refine (zkm _ _).mono ?_;rintro e w2 ⟨rfl,rfl⟩;rw [h3]))
      refine bodyPost_ret (zak rfl _ _ _ [.int .i64 0,.int .i64 0,.int .i64 0,.int .i64 0] rfl (zdz (by go_simp) (by go_simp) (by go_simp) (by go_simp)) Tryz.underlying53 rfl (by kernel_rfl)) rfl ?_
      exact ⟨rfl,by go_grown⟩)
 cases h:zjk r u t
 ·refine (no h).mono ?_
  rintro e w' ⟨rfl,hb⟩
  refine ⟨?_,hb⟩
  unfold zow
  rw [h]
  rfl
 ·have h':=h
  unfold zjk at h'
  rw [Bool.and_eq_true,Bool.and_eq_true] at h'
  obtain ⟨⟨h1,h2⟩,h3⟩:=h'
  have n2:=ziy h2
  have e0:zow r u t=(r,u,1000000000*u,t):=by unfold zow;rw [h];rfl
  rw [e0]
  clear e0 h
  go_enter Tryz.func193,Tryz.ntmps193
  go_wp2_with (first|(go_at_call 144;refine (zf7 _ _).mono ?_;rintro e w2 ⟨rfl,rfl⟩;rw [h1])|(go_at_call 122;refine (zfp _ _).mono ?_;rintro e w2 ⟨rfl,rfl⟩;rw [h2])|(go_at_call 89;refine (zkm _ _).mono ?_;rintro e w2 ⟨rfl,rfl⟩;rw [h3]))
  refine bodyPost_ret (zak rfl _ _ _ [.int .i64 r,.int .i64 u,.int .i64 (1000000000*u),.int .i64 t] rfl (zdz (by go_simp) (by go_simp) (by go_simp) (by go_simp)) Tryz.underlying53 rfl (by kernel_rfl)) rfl ?_
  exact ⟨rfl,by go_grown⟩
def zda (r u l t now:Int):Int:=if now≤t then l else min (1000000000*u) (l+r*(now-t))
def zdm (t now:Int):Int:=if now≤t then t else now
theorem zzs {r d:Int} (hr:0≤r) (hd:0≤d):zh9 r d 1=decide (r*d≤9223372036854775807)∧(zh9 r d 1=true→mdQ r d 1=r*d):=by
 have e:zh9 r d 1=decide (r*d≤9223372036854775807):=by
  unfold zh9
  rw [Int.ediv_one]
  by_cases h:r*d≤9223372036854775807
  ·rw [decide_eq_true h,decide_eq_true ⟨hr,hd,by omega,h⟩]
  ·rw [decide_eq_false h,decide_eq_false (fun k=>h k.2.2.2)]
 refine ⟨e,fun h=>?_⟩
 unfold mdQ
 rw [if_pos h,Int.ediv_one]
theorem zsp {u l P:Int} (hu:0≤u∧u≤1000000000) (hl:0≤l∧l≤1000000000*u) (h0:0≤P) (hP:P≤9223372036854775807):min (1000000000*u) (zd9 l P)=min (1000000000*u) (l+P):=by
 unfold zd9
 split
 ·rw [Int.min_eq_left (by omega),Int.min_eq_left (by omega)]
 ·rw [if_neg (by omega)]
theorem zvw {u l P:Int} (hu:0≤u∧u≤1000000000) (hl:0≤l∧l≤1000000000*u) (hP:9223372036854775807<P):min (1000000000*u) (zd9 l (1000000000*u))=min (1000000000*u) (l+P):=by
 unfold zd9
 rw [if_neg (by omega),if_neg (by omega),Int.min_eq_left (by omega),Int.min_eq_left (by omega)]
theorem zhv {r u l t now:Int} (hu:0≤u∧u≤1000000000) (hl:0≤l∧l≤1000000000*u) (hr:0≤r):0≤zda r u l t now∧zda r u l t now≤1000000000*u:=by
 unfold zda
 split
 ·exact hl
 ·rename_i h
  have:0≤r*(now-t):=Int.mul_nonneg hr (by omega)
  exact ⟨by rw [Int.le_min];omega,Int.min_le_left _ _⟩
theorem zmu {r u l t now:Int} (w:World) (h:zgn r u l t=true) (hn:zau now=true) :
 Calls Tryz.prog 140 #[.agg #[.int .i64 r,.int .i64 u,.int .i64 l,.int .i64 t],.int .i64 now] w fun e w'=>e=.returned (.agg #[.int .i64 r,.int .i64 u,.int .i64 (zda r u l t now),.int .i64 (zdm t now)])∧Below w.heap.size w w':=by
 obtain ⟨nr,nu,nl,nt⟩:=zdl h
 have nn:=zey hn
 by_cases hle:now≤t
 ·have e1:zda r u l t now=l:=if_pos hle
  have e2:zdm t now=t:=if_pos hle
  rw [e1,e2]
  go_enter Tryz.func140,Tryz.ntmps140
  go_wp2
  refine bodyPost_ret (zaj rfl _ _ _ [.int .i64 r,.int .i64 u,.int .i64 l,.int .i64 t] rfl (zdz (by go_simp) (by go_simp) (by go_simp) (by go_simp)) Tryz.underlying53 rfl (by kernel_rfl)) rfl ?_
  exact ⟨rfl,by go_grown⟩
 ·have e1:zda r u l t now=min (1000000000*u) (l+r*(now-t)):=if_neg hle
  have e2:zdm t now=now:=if_neg hle
  rw [e1,e2]
  have hlt:t<now:=by omega
  obtain ⟨m1,m2⟩:=zzs nr.1 (show 0≤now-t by omega)
  have hP0:0≤r*(now-t):=Int.mul_nonneg nr.1 (by omega)
  clear e1 e2 hle
  by_cases hP:r*(now-t)≤9223372036854775807
  ·have m1':zh9 r (now-t) 1=true:=m1.trans (decide_eq_true hP)
   have m2':=m2 m1'
   rw [←zsp nu nl hP0 hP]
   have M1:Hid (zh9 r (now-t) 1=true):=m1'
   have M2:Hid (mdQ r (now-t) 1=r*(now-t)):=m2'
   clear m1 m2 m1' m2'
   generalize r*(now-t)=P at *
   go_enter Tryz.func140,Tryz.ntmps140
   go_wp2_with (first
    | (go_at_call 168;refine (zfh _ _ _ _ (by omega) (by omega) (by omega)).mono ?_;rintro e w2 ⟨rfl,rfl⟩;rw [M1.out,M2.out])
    | (go_at_call 170;refine (zkv _ _ _ (by omega) (by omega) (by omega) (by omega)).mono ?_;rintro e w2 ⟨rfl,rfl⟩)
    | (go_at_call 84;refine (zvv _ _ _).mono ?_;rintro e w2 ⟨rfl,rfl⟩))
   refine bodyPost_ret (zaj rfl _ _ _ [.int .i64 r,.int .i64 u,.int .i64 (min (1000000000*u) (zd9 l P)),.int .i64 now] rfl (zdz (by go_simp) (by go_simp) (by go_simp) (by go_simp)) Tryz.underlying53 rfl (by kernel_rfl)) rfl ?_
   exact ⟨rfl,by go_grown⟩
  ·have m1':zh9 r (now-t) 1=false:=m1.trans (decide_eq_false hP)
   rw [←zvw nu nl (by omega)]
   have M1:Hid (zh9 r (now-t) 1=false):=m1'
   clear m1 m2 m1'
   go_enter Tryz.func140,Tryz.ntmps140
   go_wp2_with (first
    | (go_at_call 168;refine (zfh _ _ _ _ (by omega) (by omega) (by omega)).mono ?_;rintro e w2 ⟨rfl,rfl⟩;rw [M1.out])
    | (go_at_call 170;refine (zkv _ _ _ (by omega) (by omega) (by omega) (by omega)).mono ?_;rintro e w2 ⟨rfl,rfl⟩)
    | (go_at_call 84;refine (zvv _ _ _).mono ?_;rintro e w2 ⟨rfl,rfl⟩))
   refine bodyPost_ret (zaj rfl _ _ _ [.int .i64 r,.int .i64 u,.int .i64 (min (1000000000*u) (zd9 l (1000000000*u))),.int .i64 now] rfl (zdz (by go_simp) (by go_simp) (by go_simp) (by go_simp)) Tryz.underlying53 rfl (by kernel_rfl)) rfl ?_
   exact ⟨rfl,by go_grown⟩
def zkz (x:Int):Bool:=decide (1≤x) && decide (x≤3)
def zgr (x:Int):Bool:=decide (3000≤x) && decide (x≤1000000000)
def zf4 (x:Int):Bool:=decide (0≤x) && decide (x≤1000000000)
def zx4 (x:Int):Bool:=decide (1≤x) && decide (x≤1500)
def ccB (k wn th fl ac la og st fr:Int):Bool:=((((((((zkz k && zgr wn) && zgr th) && zf4 fl) && zf4 ac) && zf4 la) && zf4 og) && zf4 fr) && zau st)
theorem zcu {k wn th fl ac la og st fr:Int} (h:ccB k wn th fl ac la og st fr=true):(1≤k∧k≤3)∧(3000≤wn∧wn≤1000000000)∧(3000≤th∧th≤1000000000)∧(0≤fl∧fl≤1000000000)∧(0≤ac∧ac≤1000000000)∧(0≤la∧la≤1000000000)∧(0≤og∧og≤1000000000)∧(0≤st∧st≤1000000000000000)∧(0≤fr∧fr≤1000000000):=by
 unfold ccB zkz zgr zf4 zau at h
 simp only [Bool.and_eq_true,decide_eq_true_eq] at h
 omega
theorem zcj {x:Int} {f:Bool} (h:zgr x=f) (w:World):Calls Tryz.prog 146 #[.int .i64 x] w fun e w'=>e=.returned (.bool f)∧w'=w:=by
 subst h
 go_enter Tryz.func146,Tryz.ntmps146
 go_wp2_with (first|(go_at_call 48;refine (zew _ _ _ _).mono ?_;rintro e w2 ⟨rfl,rfl⟩))
 go_ret
 exact ⟨rfl,rfl⟩
theorem zbi {x:Int} {f:Bool} (h:zf4 x=f) (w:World):Calls Tryz.prog 122 #[.int .i64 x] w fun e w'=>e=.returned (.bool f)∧w'=w:=by
 subst h
 go_enter Tryz.func122,Tryz.ntmps122
 go_wp2_with (first|(go_at_call 48;refine (zew _ _ _ _).mono ?_;rintro e w2 ⟨rfl,rfl⟩))
 go_ret
 exact ⟨rfl,rfl⟩
theorem zf8 {x:Int} {f:Bool} (h:zau x=f) (w:World):Calls Tryz.prog 89 #[.int .i64 x] w fun e w'=>e=.returned (.bool f)∧w'=w:=by
 subst h
 go_enter Tryz.func89,Tryz.ntmps89
 go_wp2_with (first|(go_at_call 48;refine (zew _ _ _ _).mono ?_;rintro e w2 ⟨rfl,rfl⟩))
 go_ret
 exact ⟨rfl,rfl⟩
theorem zvy {x:Int} {f:Bool} (h:zx4 x=f) (w:World):Calls Tryz.prog 71 #[.int .i64 x] w fun e w'=>e=.returned (.bool f)∧w'=w:=by
 subst h
 go_enter Tryz.func71,Tryz.ntmps71
 go_wp2_with (first|(go_at_call 48;refine (zew _ _ _ _).mono ?_;rintro e w2 ⟨rfl,rfl⟩))
 go_ret
 exact ⟨rfl,rfl⟩
theorem zd5 {x:Int} {f:Bool} (h:zkz x=f) (w:World):Calls Tryz.prog 109 #[.int .i64 x] w fun e w'=>e=.returned (.bool f)∧w'=w:=by
 subst h
 go_enter Tryz.func109,Tryz.ntmps109
 go_wp2_with (first|(go_at_call 62;refine (zbz _ _ _ _).mono ?_;rintro e w2 ⟨rfl,rfl⟩))
 go_ret
 exact ⟨rfl,rfl⟩
theorem zbv {x:Int} {f:Bool} (h:zgr x=f) (w:World):Calls Tryz.prog 150 #[.int .i64 x] w fun e w'=>e=.returned (.bool f)∧w'=w:=by
 subst h
 go_enter Tryz.func150,Tryz.ntmps150
 go_wp2_with (first|(go_at_call 62;refine (zbz _ _ _ _).mono ?_;rintro e w2 ⟨rfl,rfl⟩))
 go_ret
 exact ⟨rfl,rfl⟩
theorem zb8 {x:Int} {f:Bool} (h:zf4 x=f) (w:World):Calls Tryz.prog 118 #[.int .i64 x] w fun e w'=>e=.returned (.bool f)∧w'=w:=by
 subst h
 go_enter Tryz.func118,Tryz.ntmps118
 go_wp2_with (first|(go_at_call 62;refine (zbz _ _ _ _).mono ?_;rintro e w2 ⟨rfl,rfl⟩))
 go_ret
 exact ⟨rfl,rfl⟩
theorem zhw {x:Int} {f:Bool} (h:zau x=f) (w:World):Calls Tryz.prog 87 #[.int .i64 x] w fun e w'=>e=.returned (.bool f)∧w'=w:=by
 subst h
 go_enter Tryz.func87,Tryz.ntmps87
 go_wp2_with (first|(go_at_call 62;refine (zbz _ _ _ _).mono ?_;rintro e w2 ⟨rfl,rfl⟩))
 go_ret
 exact ⟨rfl,rfl⟩
theorem zdn {x:Int} {f:Bool} (h:zkz x=f) (w:World):Calls Tryz.prog 48 #[.int .i64 x,.int .i64 1,.int .i64 3] w fun e w'=>e=.returned (.bool f)∧w'=w:=by subst h;exact zew 1 x 3 w
theorem zo1 (k wn th fl ac la og st fr:Int) (sl:Bool) (w:World):Calls Tryz.prog 135 #[.agg #[.int .i64 k,.int .i64 wn,.int .i64 th,.int .i64 fl,.int .i64 ac,.int .i64 la,.int .i64 og,.int .i64 st,.int .i64 fr,.bool sl]] w fun e w'=>e=.returned (.bool (ccB k wn th fl ac la og st fr))∧w'=w.alloc (.cells #[.int .i64 k,.int .i64 wn,.int .i64 th,.int .i64 fl,.int .i64 ac,.int .i64 la,.int .i64 og,.int .i64 st,.int .i64 fr,.bool sl] 44):=by
 have key:∀fk fwn fth ffl fac fla fog ffr fst:Bool,zkz k=fk→zgr wn=fwn→zgr th=fth→zf4 fl=ffl→zf4 ac=fac→zf4 la=fla→zf4 og=fog→zf4 fr=ffr→zau st=fst→Calls Tryz.prog 135 #[.agg #[.int .i64 k,.int .i64 wn,.int .i64 th,.int .i64 fl,.int .i64 ac,.int .i64 la,.int .i64 og,.int .i64 st,.int .i64 fr,.bool sl]] w fun e w'=>e=.returned (.bool (((((((((fk && fwn) && fth) && ffl) && fac) && fla) && fog) && ffr) && fst)))∧w'=w.alloc (.cells #[.int .i64 k,.int .i64 wn,.int .i64 th,.int .i64 fl,.int .i64 ac,.int .i64 la,.int .i64 og,.int .i64 st,.int .i64 fr,.bool sl] 44):=by
  intro fk fwn fth ffl fac fla fog ffr fst hk hwn hth hfl hac hla hog hfr hst
  cases fk
  ·go_enter Tryz.func135,Tryz.ntmps135
   go_wp2_with (first
    | (go_at_call 48;refine (zdn hk _).mono ?_;rintro e w2 ⟨rfl,rfl⟩))
   go_ret
   exact ⟨rfl,rfl⟩
  cases fwn
  ·go_enter Tryz.func135,Tryz.ntmps135
   go_wp2_with (first
    | (go_at_call 48;refine (zdn hk _).mono ?_;rintro e w2 ⟨rfl,rfl⟩)
    | (go_at_call 146;refine (zcj hwn _).mono ?_;rintro e w2 ⟨rfl,rfl⟩))
   go_ret
   exact ⟨rfl,rfl⟩
  cases fth
  ·go_enter Tryz.func135,Tryz.ntmps135
   go_wp2_with (first
    | (go_at_call 48;refine (zdn hk _).mono ?_;rintro e w2 ⟨rfl,rfl⟩)
    | (go_at_call 146;refine (zcj hwn _).mono ?_;rintro e w2 ⟨rfl,rfl⟩)
    | (go_at_call 146;refine (zcj hth _).mono ?_;rintro e w2 ⟨rfl,rfl⟩))
   go_ret
   exact ⟨rfl,rfl⟩
  cases ffl
  ·go_enter Tryz.func135,Tryz.ntmps135
   go_wp2_with (first
    | (go_at_call 48;refine (zdn hk _).mono ?_;rintro e w2 ⟨rfl,rfl⟩)
    | (go_at_call 146;refine (zcj hwn _).mono ?_;rintro e w2 ⟨rfl,rfl⟩)
    | (go_at_call 146;refine (zcj hth _).mono ?_;rintro e w2 ⟨rfl,rfl⟩)
    | (go_at_call 122;refine (zbi hfl _).mono ?_;rintro e w2 ⟨rfl,rfl⟩))
   go_ret
   exact ⟨rfl,rfl⟩
  cases fac
  ·go_enter Tryz.func135,Tryz.ntmps135
   go_wp2_with (first
    | (go_at_call 48;refine (zdn hk _).mono ?_;rintro e w2 ⟨rfl,rfl⟩)
    | (go_at_call 146;refine (zcj hwn _).mono ?_;rintro e w2 ⟨rfl,rfl⟩)
    | (go_at_call 146;refine (zcj hth _).mono ?_;rintro e w2 ⟨rfl,rfl⟩)
    | (go_at_call 122;refine (zbi hfl _).mono ?_;rintro e w2 ⟨rfl,rfl⟩)
    | (go_at_call 122;refine (zbi hac _).mono ?_;rintro e w2 ⟨rfl,rfl⟩))
   go_ret
   exact ⟨rfl,rfl⟩
  cases fla
  ·go_enter Tryz.func135,Tryz.ntmps135
   go_wp2_with (first
    | (go_at_call 48;refine (zdn hk _).mono ?_;rintro e w2 ⟨rfl,rfl⟩)
    | (go_at_call 146;refine (zcj hwn _).mono ?_;rintro e w2 ⟨rfl,rfl⟩)
    | (go_at_call 146;refine (zcj hth _).mono ?_;rintro e w2 ⟨rfl,rfl⟩)
    | (go_at_call 122;refine (zbi hfl _).mono ?_;rintro e w2 ⟨rfl,rfl⟩)
    | (go_at_call 122;refine (zbi hac _).mono ?_;rintro e w2 ⟨rfl,rfl⟩)
    | (go_at_call 122;refine (zbi hla _).mono ?_;rintro e w2 ⟨rfl,rfl⟩))
   go_ret
   exact ⟨rfl,rfl⟩
  cases fog
  ·go_enter Tryz.func135,Tryz.ntmps135
   go_wp2_with (first
    | (go_at_call 48;refine (zdn hk _).mono ?_;rintro e w2 ⟨rfl,rfl⟩)
    | (go_at_call 146;refine (zcj hwn _).mono ?_;rintro e w2 ⟨rfl,rfl⟩)
    | (go_at_call 146;refine (zcj hth _).mono ?_;rintro e w2 ⟨rfl,rfl⟩)
    | (go_at_call 122;refine (zbi hfl _).mono ?_;rintro e w2 ⟨rfl,rfl⟩)
    | (go_at_call 122;refine (zbi hac _).mono ?_;rintro e w2 ⟨rfl,rfl⟩)
    | (go_at_call 122;refine (zbi hla _).mono ?_;rintro e w2 ⟨rfl,rfl⟩)
    | (go_at_call 122;refine (zbi hog _).mono ?_;rintro e w2 ⟨rfl,rfl⟩))
   go_ret
   exact ⟨rfl,rfl⟩
  cases ffr
  ·go_enter Tryz.func135,Tryz.ntmps135
   go_wp2_with (first
    | (go_at_call 48;refine (zdn hk _).mono ?_;rintro e w2 ⟨rfl,rfl⟩)
    | (go_at_call 146;refine (zcj hwn _).mono ?_;rintro e w2 ⟨rfl,rfl⟩)
    | (go_at_call 146;refine (zcj hth _).mono ?_;rintro e w2 ⟨rfl,rfl⟩)
    | (go_at_call 122;refine (zbi hfl _).mono ?_;rintro e w2 ⟨rfl,rfl⟩)
    | (go_at_call 122;refine (zbi hac _).mono ?_;rintro e w2 ⟨rfl,rfl⟩)
    | (go_at_call 122;refine (zbi hla _).mono ?_;rintro e w2 ⟨rfl,rfl⟩)
    | (go_at_call 122;refine (zbi hog _).mono ?_;rintro e w2 ⟨rfl,rfl⟩)
    | (go_at_call 122;refine (zbi hfr _).mono ?_;rintro e w2 ⟨rfl,rfl⟩))
   go_ret
   exact ⟨rfl,rfl⟩
  cases fst
  ·go_enter Tryz.func135,Tryz.ntmps135
   go_wp2_with (first
    | (go_at_call 48;refine (zdn hk _).mono ?_;rintro e w2 ⟨rfl,rfl⟩)
    | (go_at_call 146;refine (zcj hwn _).mono ?_;rintro e w2 ⟨rfl,rfl⟩)
    | (go_at_call 146;refine (zcj hth _).mono ?_;rintro e w2 ⟨rfl,rfl⟩)
    | (go_at_call 122;refine (zbi hfl _).mono ?_;rintro e w2 ⟨rfl,rfl⟩)
    | (go_at_call 122;refine (zbi hac _).mono ?_;rintro e w2 ⟨rfl,rfl⟩)
    | (go_at_call 122;refine (zbi hla _).mono ?_;rintro e w2 ⟨rfl,rfl⟩)
    | (go_at_call 122;refine (zbi hog _).mono ?_;rintro e w2 ⟨rfl,rfl⟩)
    | (go_at_call 122;refine (zbi hfr _).mono ?_;rintro e w2 ⟨rfl,rfl⟩)
    | (go_at_call 89;refine (zf8 hst _).mono ?_;rintro e w2 ⟨rfl,rfl⟩))
   go_ret
   exact ⟨rfl,rfl⟩
  go_enter Tryz.func135,Tryz.ntmps135
  go_wp2_with (first
   | (go_at_call 48;refine (zdn hk _).mono ?_;rintro e w2 ⟨rfl,rfl⟩)
   | (go_at_call 146;refine (zcj hwn _).mono ?_;rintro e w2 ⟨rfl,rfl⟩)
   | (go_at_call 146;refine (zcj hth _).mono ?_;rintro e w2 ⟨rfl,rfl⟩)
   | (go_at_call 122;refine (zbi hfl _).mono ?_;rintro e w2 ⟨rfl,rfl⟩)
   | (go_at_call 122;refine (zbi hac _).mono ?_;rintro e w2 ⟨rfl,rfl⟩)
   | (go_at_call 122;refine (zbi hla _).mono ?_;rintro e w2 ⟨rfl,rfl⟩)
   | (go_at_call 122;refine (zbi hog _).mono ?_;rintro e w2 ⟨rfl,rfl⟩)
   | (go_at_call 122;refine (zbi hfr _).mono ?_;rintro e w2 ⟨rfl,rfl⟩)
   | (go_at_call 89;refine (zf8 hst _).mono ?_;rintro e w2 ⟨rfl,rfl⟩))
  go_ret
  exact ⟨rfl,rfl⟩
 exact key _ _ _ _ _ _ _ _ _ rfl rfl rfl rfl rfl rfl rfl rfl rfl
theorem zaw {k wn th fl ac la og st fr:Int} {f:Bool} (h:ccB k wn th fl ac la og st fr=f) (sl:Bool) (w:World):Calls Tryz.prog 135 #[.agg #[.int .i64 k,.int .i64 wn,.int .i64 th,.int .i64 fl,.int .i64 ac,.int .i64 la,.int .i64 og,.int .i64 st,.int .i64 fr,.bool sl]] w fun e w'=>e=.returned (.bool f)∧w'=w.alloc (.cells #[.int .i64 k,.int .i64 wn,.int .i64 th,.int .i64 fl,.int .i64 ac,.int .i64 la,.int .i64 og,.int .i64 st,.int .i64 fr,.bool sl] 44):=by
 subst h;exact zo1 k wn th fl ac la og st fr sl w
theorem zo3 (k wn th fl ac la og st fr:Int) (sl:Bool) (w:World):Calls Tryz.prog 127 #[.agg #[.int .i64 k,.int .i64 wn,.int .i64 th,.int .i64 fl,.int .i64 ac,.int .i64 la,.int .i64 og,.int .i64 st,.int .i64 fr,.bool sl]] w fun e w'=>e=.returned (.bool (ccB k wn th fl ac la og st fr))∧w'=w.alloc (.cells #[.int .i64 k,.int .i64 wn,.int .i64 th,.int .i64 fl,.int .i64 ac,.int .i64 la,.int .i64 og,.int .i64 st,.int .i64 fr,.bool sl] 44):=by
 have key:∀fk fwn fth fst ffl fac fla fog ffr:Bool,zkz k=fk→zgr wn=fwn→zgr th=fth→zau st=fst→zf4 fl=ffl→zf4 ac=fac→zf4 la=fla→zf4 og=fog→zf4 fr=ffr→Calls Tryz.prog 127 #[.agg #[.int .i64 k,.int .i64 wn,.int .i64 th,.int .i64 fl,.int .i64 ac,.int .i64 la,.int .i64 og,.int .i64 st,.int .i64 fr,.bool sl]] w fun e w'=>e=.returned (.bool (((((((((fk && fwn) && fth) && ffl) && fac) && fla) && fog) && ffr) && fst)))∧w'=w.alloc (.cells #[.int .i64 k,.int .i64 wn,.int .i64 th,.int .i64 fl,.int .i64 ac,.int .i64 la,.int .i64 og,.int .i64 st,.int .i64 fr,.bool sl] 44):=by
  intro fk fwn fth fst ffl fac fla fog ffr hk hwn hth hst hfl hac hla hog hfr
  cases fk
  ·go_enter Tryz.func127,Tryz.ntmps127
   go_wp2_with (first
    | (go_at_call 109;refine (zd5 hk _).mono ?_;rintro e w2 ⟨rfl,rfl⟩))
   go_ret
   exact ⟨rfl,rfl⟩
  cases fwn
  ·go_enter Tryz.func127,Tryz.ntmps127
   go_wp2_with (first
    | (go_at_call 109;refine (zd5 hk _).mono ?_;rintro e w2 ⟨rfl,rfl⟩)
    | (go_at_call 150;refine (zbv hwn _).mono ?_;rintro e w2 ⟨rfl,rfl⟩))
   go_ret
   exact ⟨rfl,rfl⟩
  cases fth
  ·go_enter Tryz.func127,Tryz.ntmps127
   go_wp2_with (first
    | (go_at_call 109;refine (zd5 hk _).mono ?_;rintro e w2 ⟨rfl,rfl⟩)
    | (go_at_call 150;refine (zbv hwn _).mono ?_;rintro e w2 ⟨rfl,rfl⟩)
    | (go_at_call 150;refine (zbv hth _).mono ?_;rintro e w2 ⟨rfl,rfl⟩))
   go_ret
   exact ⟨rfl,rfl⟩
  cases fst
  ·rw [Bool.and_false]
   go_enter Tryz.func127,Tryz.ntmps127
   go_wp2_with (first
    | (go_at_call 109;refine (zd5 hk _).mono ?_;rintro e w2 ⟨rfl,rfl⟩)
    | (go_at_call 150;refine (zbv hwn _).mono ?_;rintro e w2 ⟨rfl,rfl⟩)
    | (go_at_call 150;refine (zbv hth _).mono ?_;rintro e w2 ⟨rfl,rfl⟩)
    | (go_at_call 87;refine (zhw hst _).mono ?_;rintro e w2 ⟨rfl,rfl⟩))
   go_ret
   exact ⟨rfl,rfl⟩
  cases ffl
  ·go_enter Tryz.func127,Tryz.ntmps127
   go_wp2_with (first
    | (go_at_call 109;refine (zd5 hk _).mono ?_;rintro e w2 ⟨rfl,rfl⟩)
    | (go_at_call 150;refine (zbv hwn _).mono ?_;rintro e w2 ⟨rfl,rfl⟩)
    | (go_at_call 150;refine (zbv hth _).mono ?_;rintro e w2 ⟨rfl,rfl⟩)
    | (go_at_call 87;refine (zhw hst _).mono ?_;rintro e w2 ⟨rfl,rfl⟩)
    | (go_at_call 118;refine (zb8 hfl _).mono ?_;rintro e w2 ⟨rfl,rfl⟩))
   go_ret
   exact ⟨rfl,rfl⟩
  cases fac
  ·go_enter Tryz.func127,Tryz.ntmps127
   go_wp2_with (first
    | (go_at_call 109;refine (zd5 hk _).mono ?_;rintro e w2 ⟨rfl,rfl⟩)
    | (go_at_call 150;refine (zbv hwn _).mono ?_;rintro e w2 ⟨rfl,rfl⟩)
    | (go_at_call 150;refine (zbv hth _).mono ?_;rintro e w2 ⟨rfl,rfl⟩)
    | (go_at_call 87;refine (zhw hst _).mono ?_;rintro e w2 ⟨rfl,rfl⟩)
    | (go_at_call 118;refine (zb8 hfl _).mono ?_;rintro e w2 ⟨rfl,rfl⟩)
    | (go_at_call 118;refine (zb8 hac _).mono ?_;rintro e w2 ⟨rfl,rfl⟩))
   go_ret
   exact ⟨rfl,rfl⟩
  cases fla
  ·go_enter Tryz.func127,Tryz.ntmps127
   go_wp2_with (first
    | (go_at_call 109;refine (zd5 hk _).mono ?_;rintro e w2 ⟨rfl,rfl⟩)
    | (go_at_call 150;refine (zbv hwn _).mono ?_;rintro e w2 ⟨rfl,rfl⟩)
    | (go_at_call 150;refine (zbv hth _).mono ?_;rintro e w2 ⟨rfl,rfl⟩)
    | (go_at_call 87;refine (zhw hst _).mono ?_;rintro e w2 ⟨rfl,rfl⟩)
    | (go_at_call 118;refine (zb8 hfl _).mono ?_;rintro e w2 ⟨rfl,rfl⟩)
    | (go_at_call 118;refine (zb8 hac _).mono ?_;rintro e w2 ⟨rfl,rfl⟩)
    | (go_at_call 118;refine (zb8 hla _).mono ?_;rintro e w2 ⟨rfl,rfl⟩))
   go_ret
   exact ⟨rfl,rfl⟩
  cases fog
  ·go_enter Tryz.func127,Tryz.ntmps127
   go_wp2_with (first
    | (go_at_call 109;refine (zd5 hk _).mono ?_;rintro e w2 ⟨rfl,rfl⟩)
    | (go_at_call 150;refine (zbv hwn _).mono ?_;rintro e w2 ⟨rfl,rfl⟩)
    | (go_at_call 150;refine (zbv hth _).mono ?_;rintro e w2 ⟨rfl,rfl⟩)
    | (go_at_call 87;refine (zhw hst _).mono ?_;rintro e w2 ⟨rfl,rfl⟩)
    | (go_at_call 118;refine (zb8 hfl _).mono ?_;rintro e w2 ⟨rfl,rfl⟩)
    | (go_at_call 118;refine (zb8 hac _).mono ?_;rintro e w2 ⟨rfl,rfl⟩)
    | (go_at_call 118;refine (zb8 hla _).mono ?_;rintro e w2 ⟨rfl,rfl⟩)
    | (go_at_call 118;refine (zb8 hog _).mono ?_;rintro e w2 ⟨rfl,rfl⟩))
   go_ret
   exact ⟨rfl,rfl⟩
  cases ffr
  ·go_enter Tryz.func127,Tryz.ntmps127
   go_wp2_with (first
    | (go_at_call 109;refine (zd5 hk _).mono ?_;rintro e w2 ⟨rfl,rfl⟩)
    | (go_at_call 150;refine (zbv hwn _).mono ?_;rintro e w2 ⟨rfl,rfl⟩)
    | (go_at_call 150;refine (zbv hth _).mono ?_;rintro e w2 ⟨rfl,rfl⟩)
    | (go_at_call 87;refine (zhw hst _).mono ?_;rintro e w2 ⟨rfl,rfl⟩)
    | (go_at_call 118;refine (zb8 hfl _).mono ?_;rintro e w2 ⟨rfl,rfl⟩)
    | (go_at_call 118;refine (zb8 hac _).mono ?_;rintro e w2 ⟨rfl,rfl⟩)
    | (go_at_call 118;refine (zb8 hla _).mono ?_;rintro e w2 ⟨rfl,rfl⟩)
    | (go_at_call 118;refine (zb8 hog _).mono ?_;rintro e w2 ⟨rfl,rfl⟩)
    | (go_at_call 118;refine (zb8 hfr _).mono ?_;rintro e w2 ⟨rfl,rfl⟩))
   go_ret
   exact ⟨rfl,rfl⟩
  go_enter Tryz.func127,Tryz.ntmps127
  go_wp2_with (first
   | (go_at_call 109;refine (zd5 hk _).mono ?_;rintro e w2 ⟨rfl,rfl⟩)
   | (go_at_call 150;refine (zbv hwn _).mono ?_;rintro e w2 ⟨rfl,rfl⟩)
   | (go_at_call 150;refine (zbv hth _).mono ?_;rintro e w2 ⟨rfl,rfl⟩)
   | (go_at_call 87;refine (zhw hst _).mono ?_;rintro e w2 ⟨rfl,rfl⟩)
   | (go_at_call 118;refine (zb8 hfl _).mono ?_;rintro e w2 ⟨rfl,rfl⟩)
   | (go_at_call 118;refine (zb8 hac _).mono ?_;rintro e w2 ⟨rfl,rfl⟩)
   | (go_at_call 118;refine (zb8 hla _).mono ?_;rintro e w2 ⟨rfl,rfl⟩)
   | (go_at_call 118;refine (zb8 hog _).mono ?_;rintro e w2 ⟨rfl,rfl⟩)
   | (go_at_call 118;refine (zb8 hfr _).mono ?_;rintro e w2 ⟨rfl,rfl⟩))
  go_ret
  exact ⟨rfl,rfl⟩
 exact key _ _ _ _ _ _ _ _ _ rfl rfl rfl rfl rfl rfl rfl rfl rfl
theorem zez {k wn th fl ac la og st fr:Int} {f:Bool} (h:ccB k wn th fl ac la og st fr=f) (sl:Bool) (w:World):Calls Tryz.prog 127 #[.agg #[.int .i64 k,.int .i64 wn,.int .i64 th,.int .i64 fl,.int .i64 ac,.int .i64 la,.int .i64 og,.int .i64 st,.int .i64 fr,.bool sl]] w fun e w'=>e=.returned (.bool f)∧w'=w.alloc (.cells #[.int .i64 k,.int .i64 wn,.int .i64 th,.int .i64 fl,.int .i64 ac,.int .i64 la,.int .i64 og,.int .i64 st,.int .i64 fr,.bool sl] 44):=by
 subst h;exact zo3 k wn th fl ac la og st fr sl w
theorem znl {k:Int} (w:World) (h:zkz k=true):Calls Tryz.prog 53 #[.int .i64 k] w fun e w'=>e=.returned (.tuple #[.agg #[.int .i64 k,.int .i64 15000,.int .i64 1000000000,.int .i64 0,.int .i64 0,.int .i64 0,.int .i64 0,.int .i64 0,.int .i64 0,.bool true],.bool true])∧Below w.heap.size w w':=by
 go_enter Tryz.func53,Tryz.ntmps53
 go_wp2_with (first|(go_at_call 48;refine (zdn h _).mono ?_;rintro e w2 ⟨rfl,rfl⟩))
 refine bodyPost_ret (zak rfl _ _ _ [.int .i64 k,.int .i64 15000,.int .i64 1000000000,.int .i64 0,.int .i64 0,.int .i64 0,.int .i64 0,.int .i64 0,.int .i64 0,.bool true] rfl (zbm (by go_simp) (by go_simp) (by go_simp) (by go_simp) (by go_simp) (by go_simp) (by go_simp) (by go_simp) (by go_simp) (by go_simp)) Tryz.underlying44 rfl (by kernel_rfl)) rfl ?_
 exact ⟨rfl,by go_grown⟩
def zgs (wn:Int):Int:=max 3000 (wn / 2)
theorem zem {x:Int} (h:0≤x) (m:Int):x.tdiv m=x / m:=Int.tdiv_eq_ediv_of_nonneg h
theorem zav (x y:Int) (w:World):Calls Tryz.prog 83 #[.int .i64 x,.int .i64 y] w fun e w'=>e=.returned (.int .i64 (max x y))∧w'=w:=by
 by_cases h:y<x
 ·rw [Int.max_eq_left (by omega)]
  go_enter Tryz.func83,Tryz.ntmps83
  go_wp2
  go_ret
  exact ⟨rfl,rfl⟩
 ·rw [Int.max_eq_right (by omega)]
  go_enter Tryz.func83,Tryz.ntmps83
  go_wp2
  go_ret
  exact ⟨rfl,rfl⟩
theorem za9 (x y:Int) (w:World):Calls Tryz.prog 84 #[.int .i64 x,.int .i64 y] w fun e w'=>e=.returned (.int .i64 (min x y))∧w'=w:=by
 by_cases h:x<y
 ·rw [Int.min_eq_left (by omega)]
  go_enter Tryz.func84,Tryz.ntmps84
  go_wp2
  go_ret
  exact ⟨rfl,rfl⟩
 ·rw [Int.min_eq_right (by omega)]
  go_enter Tryz.func84,Tryz.ntmps84
  go_wp2
  go_ret
  exact ⟨rfl,rfl⟩
theorem zk0 {k wn th fl ac la og st fr:Int} (sl:Bool) (w:World) (h1:ccB k wn th fl ac la og st fr=false):Calls Tryz.prog 78 #[.agg #[.int .i64 k,.int .i64 wn,.int .i64 th,.int .i64 fl,.int .i64 ac,.int .i64 la,.int .i64 og,.int .i64 st,.int .i64 fr,.bool sl]] w fun e w'=>e=.returned (.agg #[.int .i64 0,.int .i64 0,.int .i64 0,.int .i64 0,.int .i64 0,.int .i64 0,.int .i64 0,.int .i64 0,.int .i64 0,.bool false])∧Below w.heap.size w w':=by
 go_enter Tryz.func78,Tryz.ntmps78
 go_wp2_with (first
  | (go_at_call 135;refine (zaw h1 _ _).mono ?_;rintro e w2 ⟨rfl,rfl⟩))
 refine bodyPost_ret (zaj rfl _ _ _ [.int .i64 0,.int .i64 0,.int .i64 0,.int .i64 0,.int .i64 0,.int .i64 0,.int .i64 0,.int .i64 0,.int .i64 0,.bool false] rfl (zbm (by go_simp) (by go_simp) (by go_simp) (by go_simp) (by go_simp) (by go_simp) (by go_simp) (by go_simp) (by go_simp) (by go_simp)) Tryz.underlying44 rfl (by kernel_rfl)) rfl ?_
 exact ⟨rfl,by go_grown⟩
theorem zjx {k wn th fl ac la og st fr:Int} (sl:Bool) (w:World) (h1:ccB k wn th fl ac la og st fr=true):Calls Tryz.prog 78 #[.agg #[.int .i64 k,.int .i64 wn,.int .i64 th,.int .i64 fl,.int .i64 ac,.int .i64 la,.int .i64 og,.int .i64 st,.int .i64 fr,.bool sl]] w fun e w'=>e=.returned (.agg #[.int .i64 k,.int .i64 (zgs wn),.int .i64 (zgs wn),.int .i64 fl,.int .i64 0,.int .i64 la,.int .i64 og,.int .i64 st,.int .i64 fr,.bool false])∧Below w.heap.size w w':=by
 obtain ⟨_,⟨wn0,wn1⟩,_⟩:=zcu h1
 have ed:=zem (x:=wn) (by omega) 2
 have hm:∀w:World,Calls Tryz.prog 83 #[.int .i64 3000,.int .i64 (wn / 2)] w fun e w'=>e=.returned (.int .i64 (zgs wn))∧w'=w:=zav 3000 (wn / 2)
 go_enter Tryz.func78,Tryz.ntmps78
 go_wp2_with (first
  | (go_at_call 135;refine (zaw h1 _ _).mono ?_;rintro e w2 ⟨rfl,rfl⟩)
  | (go_at_call 83;(try rw [ed]);refine (hm _).mono ?_;rintro e w3 ⟨rfl,rfl⟩))
 refine bodyPost_ret (zaj rfl _ _ _ [.int .i64 k,.int .i64 (zgs wn),.int .i64 (zgs wn),.int .i64 fl,.int .i64 0,.int .i64 la,.int .i64 og,.int .i64 st,.int .i64 fr,.bool false] rfl (zbm (by go_simp) (by go_simp) (by go_simp) (by go_simp) (by go_simp) (by go_simp) (by go_simp) (by go_simp) (by go_simp) (by go_simp)) Tryz.underlying44 rfl (by kernel_rfl)) rfl ?_
 exact ⟨rfl,by go_grown⟩
theorem zo5 {x:Int} (h:zx4 x=true):1≤x∧x≤1500:=by
 unfold zx4 at h
 simp only [Bool.and_eq_true,decide_eq_true_eq] at h
 exact h
theorem zo6 {k wn th fl ac la og st fr n:Int} (sl:Bool) (w:World) (h1:ccB k wn th fl ac la og st fr=true) (h2:zx4 n=true) (h3:fl+n≤wn):Calls Tryz.prog 173 #[.agg #[.int .i64 k,.int .i64 wn,.int .i64 th,.int .i64 fl,.int .i64 ac,.int .i64 la,.int .i64 og,.int .i64 st,.int .i64 fr,.bool sl],.int .i64 n] w fun e w'=>e=.returned (.tuple #[.agg #[.int .i64 k,.int .i64 wn,.int .i64 th,.int .i64 (fl+n),.int .i64 ac,.int .i64 la,.int .i64 og,.int .i64 st,.int .i64 fr,.bool sl],.bool true])∧Below w.heap.size w w':=by
 obtain ⟨_,⟨wn0,wn1⟩,_,⟨fl0,fl1⟩,_⟩:=zcu h1
 obtain ⟨n0,n1⟩:=zo5 h2
 have r1:IntKind.i64.wrap (fl+n)=fl+n:=by rw [IntKind.wrap_i64];omega
 have h3':¬wn<fl+n:=by omega
 go_enter Tryz.func173,Tryz.ntmps173
 go_wp2_with (first
  | (go_at_call 135;refine (zaw h1 _ _).mono ?_;rintro e w2 ⟨rfl,rfl⟩)
  | (go_at_call 71;refine (zvy h2 _).mono ?_;rintro e w2 ⟨rfl,rfl⟩))
 refine bodyPost_ret (zak rfl _ _ _ [.int .i64 k,.int .i64 wn,.int .i64 th,.int .i64 (fl+n),.int .i64 ac,.int .i64 la,.int .i64 og,.int .i64 st,.int .i64 fr,.bool sl] rfl (zbm (by go_simp) (by go_simp) (by go_simp) (by go_simp) (by go_simp) (by go_simp) (by go_simp) (by go_simp) (by go_simp) (by go_simp)) Tryz.underlying44 rfl (by kernel_rfl)) rfl ?_
 exact ⟨rfl,by go_grown⟩
structure C10 where
 k:Int
 wn:Int
 th:Int
 fl:Int
 ac:Int
 la:Int
 og:Int
 st:Int
 fr:Int
 sl:Bool
def zk1:C10:=⟨0,0,0,0,0,0,0,0,0,false⟩
def zhh (k wn th fl ac la og st fr:Int) (sl:Bool):C10:=if ccB k wn th fl ac la og st fr=true then ⟨k,zgs wn,zgs wn,fl,0,la,og,st,fr,false⟩ else zk1
theorem zjy (k wn th fl ac la og st fr:Int) (sl:Bool) (w:World):Calls Tryz.prog 78 #[.agg #[.int .i64 k,.int .i64 wn,.int .i64 th,.int .i64 fl,.int .i64 ac,.int .i64 la,.int .i64 og,.int .i64 st,.int .i64 fr,.bool sl]] w fun e w'=>e=.returned (.agg #[.int .i64 ((zhh k wn th fl ac la og st fr sl).k),.int .i64 ((zhh k wn th fl ac la og st fr sl).wn),.int .i64 ((zhh k wn th fl ac la og st fr sl).th),.int .i64 ((zhh k wn th fl ac la og st fr sl).fl),.int .i64 ((zhh k wn th fl ac la og st fr sl).ac),.int .i64 ((zhh k wn th fl ac la og st fr sl).la),.int .i64 ((zhh k wn th fl ac la og st fr sl).og),.int .i64 ((zhh k wn th fl ac la og st fr sl).st),.int .i64 ((zhh k wn th fl ac la og st fr sl).fr),.bool (zhh k wn th fl ac la og st fr sl).sl])∧Below w.heap.size w w':=by
 cases h1:ccB k wn th fl ac la og st fr
 ·rw [show zhh k wn th fl ac la og st fr sl=zk1 from if_neg (by rw [h1];decide)]
  exact zk0 sl w h1
 ·rw [show zhh k wn th fl ac la og st fr sl=⟨k,zgs wn,zgs wn,fl,0,la,og,st,fr,false⟩ from if_pos h1]
  exact zjx sl w h1
def zjz (wn:Int):Int:=max 3000 (7*wn / 10)
def zma (wn la:Int):Int:=if wn<la then 17*wn / 20 else wn
theorem zj0 {k wn th fl ac la og st fr:Int} (sl:Bool) (w:World) (h1:ccB k wn th fl ac la og st fr=false):Calls Tryz.prog 79 #[.agg #[.int .i64 k,.int .i64 wn,.int .i64 th,.int .i64 fl,.int .i64 ac,.int .i64 la,.int .i64 og,.int .i64 st,.int .i64 fr,.bool sl]] w fun e w'=>e=.returned (.agg #[.int .i64 0,.int .i64 0,.int .i64 0,.int .i64 0,.int .i64 0,.int .i64 0,.int .i64 0,.int .i64 0,.int .i64 0,.bool false])∧Below w.heap.size w w':=by
 go_enter Tryz.func79,Tryz.ntmps79
 go_wp2_with (first
  | (go_at_call 135;refine (zaw h1 _ _).mono ?_;rintro e w2 ⟨rfl,rfl⟩))
 refine bodyPost_ret (zaj rfl _ _ _ [.int .i64 0,.int .i64 0,.int .i64 0,.int .i64 0,.int .i64 0,.int .i64 0,.int .i64 0,.int .i64 0,.int .i64 0,.bool false] rfl (zbm (by go_simp) (by go_simp) (by go_simp) (by go_simp) (by go_simp) (by go_simp) (by go_simp) (by go_simp) (by go_simp) (by go_simp)) Tryz.underlying44 rfl (by kernel_rfl)) rfl ?_
 exact ⟨rfl,by go_grown⟩
theorem zib {k wn th fl ac la og st fr:Int} (sl:Bool) (w:World) (h1:ccB k wn th fl ac la og st fr=true) (h2:wn<la):Calls Tryz.prog 79 #[.agg #[.int .i64 k,.int .i64 wn,.int .i64 th,.int .i64 fl,.int .i64 ac,.int .i64 la,.int .i64 og,.int .i64 st,.int .i64 fr,.bool sl]] w fun e w'=>e=.returned (.agg #[.int .i64 k,.int .i64 (zjz wn),.int .i64 (zjz wn),.int .i64 fl,.int .i64 0,.int .i64 (17*wn / 20),.int .i64 0,.int .i64 0,.int .i64 0,.bool false])∧Below w.heap.size w w':=by
 obtain ⟨_,⟨wn0,wn1⟩,_,_,_,⟨la0,la1⟩,_⟩:=zcu h1
 have r1:IntKind.i64.wrap (7*wn)=7*wn:=by rw [IntKind.wrap_i64];omega
 have r2:IntKind.i64.wrap (17*wn)=17*wn:=by rw [IntKind.wrap_i64];omega
 have ed:=zem (x:=7*wn) (by omega) 10
 have ee:=zem (x:=17*wn) (by omega) 20
 have r3:IntKind.i64.wrap (7*wn / 10)=7*wn / 10:=by rw [IntKind.wrap_i64];omega
 have r4:IntKind.i64.wrap (17*wn / 20)=17*wn / 20:=by rw [IntKind.wrap_i64];omega
 have hm:∀w:World,Calls Tryz.prog 83 #[.int .i64 3000,.int .i64 (7*wn / 10)] w fun e w'=>e=.returned (.int .i64 (zjz wn))∧w'=w:=zav 3000 (7*wn / 10)
 go_enter Tryz.func79,Tryz.ntmps79
 go_wp2_with (first
  | (go_at_call 135;refine (zaw h1 _ _).mono ?_;rintro e w2 ⟨rfl,rfl⟩)
  | (go_at_call 83;(try rw [ed]);refine (hm _).mono ?_;rintro e w2 ⟨rfl,rfl⟩))
 refine bodyPost_ret (zaj rfl _ _ _ [.int .i64 k,.int .i64 (zjz wn),.int .i64 (zjz wn),.int .i64 fl,.int .i64 0,.int .i64 (17*wn / 20),.int .i64 0,.int .i64 0,.int .i64 0,.bool false] rfl (zbm (by go_simp) (by go_simp) (by go_simp) (by go_simp) (by go_simp) (by go_simp) (by go_simp) (by go_simp) (by go_simp) (by go_simp)) Tryz.underlying44 rfl (by kernel_rfl)) rfl ?_
 exact ⟨rfl,by go_grown⟩
theorem zic {k wn th fl ac la og st fr:Int} (sl:Bool) (w:World) (h1:ccB k wn th fl ac la og st fr=true) (h2:¬wn<la):Calls Tryz.prog 79 #[.agg #[.int .i64 k,.int .i64 wn,.int .i64 th,.int .i64 fl,.int .i64 ac,.int .i64 la,.int .i64 og,.int .i64 st,.int .i64 fr,.bool sl]] w fun e w'=>e=.returned (.agg #[.int .i64 k,.int .i64 (zjz wn),.int .i64 (zjz wn),.int .i64 fl,.int .i64 0,.int .i64 wn,.int .i64 0,.int .i64 0,.int .i64 0,.bool false])∧Below w.heap.size w w':=by
 obtain ⟨_,⟨wn0,wn1⟩,_,_,_,⟨la0,la1⟩,_⟩:=zcu h1
 have r1:IntKind.i64.wrap (7*wn)=7*wn:=by rw [IntKind.wrap_i64];omega
 have r2:IntKind.i64.wrap (17*wn)=17*wn:=by rw [IntKind.wrap_i64];omega
 have ed:=zem (x:=7*wn) (by omega) 10
 have ee:=zem (x:=17*wn) (by omega) 20
 have r3:IntKind.i64.wrap (7*wn / 10)=7*wn / 10:=by rw [IntKind.wrap_i64];omega
 have r4:IntKind.i64.wrap (17*wn / 20)=17*wn / 20:=by rw [IntKind.wrap_i64];omega
 have hm:∀w:World,Calls Tryz.prog 83 #[.int .i64 3000,.int .i64 (7*wn / 10)] w fun e w'=>e=.returned (.int .i64 (zjz wn))∧w'=w:=zav 3000 (7*wn / 10)
 go_enter Tryz.func79,Tryz.ntmps79
 go_wp2_with (first
  | (go_at_call 135;refine (zaw h1 _ _).mono ?_;rintro e w2 ⟨rfl,rfl⟩)
  | (go_at_call 83;(try rw [ed]);refine (hm _).mono ?_;rintro e w2 ⟨rfl,rfl⟩))
 refine bodyPost_ret (zaj rfl _ _ _ [.int .i64 k,.int .i64 (zjz wn),.int .i64 (zjz wn),.int .i64 fl,.int .i64 0,.int .i64 wn,.int .i64 0,.int .i64 0,.int .i64 0,.bool false] rfl (zbm (by go_simp) (by go_simp) (by go_simp) (by go_simp) (by go_simp) (by go_simp) (by go_simp) (by go_simp) (by go_simp) (by go_simp)) Tryz.underlying44 rfl (by kernel_rfl)) rfl ?_
 exact ⟨rfl,by go_grown⟩
theorem zi1 {k wn th fl ac la og st fr:Int} (sl:Bool) (w:World) (h1:ccB k wn th fl ac la og st fr=true):Calls Tryz.prog 79 #[.agg #[.int .i64 k,.int .i64 wn,.int .i64 th,.int .i64 fl,.int .i64 ac,.int .i64 la,.int .i64 og,.int .i64 st,.int .i64 fr,.bool sl]] w fun e w'=>e=.returned (.agg #[.int .i64 k,.int .i64 (zjz wn),.int .i64 (zjz wn),.int .i64 fl,.int .i64 0,.int .i64 (zma wn la),.int .i64 0,.int .i64 0,.int .i64 0,.bool false])∧Below w.heap.size w w':=by
 by_cases h2:wn<la
 ·rw [show zma wn la=17*wn / 20 from if_pos h2]
  exact zib sl w h1 h2
 ·rw [show zma wn la=wn from if_neg h2]
  exact zic sl w h1 h2
def zdo (la og:Int):Int:=if zf4 la=true∧zf4 og=true then zxw la og else -1
def zo7 (x:Int):Bool:=decide (0≤x) && decide (x≤1000000)
def zf9 (la og ms:Int):Int:=if (zf4 la=true∧zf4 og=true)∧zo7 ms=true then z0r la og ms else -1
theorem zc3 {x:Int} (h:zf4 x=true):0≤x∧x≤1000000000:=by
 unfold zf4 at h
 simp only [Bool.and_eq_true,decide_eq_true_eq] at h
 exact h
theorem zc4 (la og:Int) (w:World):Calls Tryz.prog 166 #[.int .i64 la,.int .i64 og] w fun e w'=>e=.returned (.int .i64 (zdo la og))∧w'=w:=by
 cases h1:zf4 la
 ·rw [show zdo la og = -1 from if_neg (by rw [h1];simp)]
  go_enter Tryz.func166,Tryz.ntmps166
  go_wp2_with (first|(go_at_call 122;refine (zbi h1 _).mono ?_;rintro e w2 ⟨rfl,rfl⟩))
  go_ret
  exact ⟨rfl,rfl⟩
 cases h2:zf4 og
 ·rw [show zdo la og = -1 from if_neg (by rw [h2];simp)]
  go_enter Tryz.func166,Tryz.ntmps166
  go_wp2_with (first|(go_at_call 122;refine (zbi h1 _).mono ?_;rintro e w2 ⟨rfl,rfl⟩)|(go_at_call 122;refine (zbi h2 _).mono ?_;rintro e w2 ⟨rfl,rfl⟩))
  go_ret
  exact ⟨rfl,rfl⟩
 rw [show zdo la og=zxw la og from if_pos ⟨h1,h2⟩]
 obtain ⟨l0,l1⟩:=zc3 h1
 obtain ⟨o0,o1⟩:=zc3 h2
 by_cases h3:la≤og
 ·rw [show zxw la og=0 from if_pos h3]
  go_enter Tryz.func166,Tryz.ntmps166
  go_wp2_with (first|(go_at_call 122;refine (zbi h1 _).mono ?_;rintro e w2 ⟨rfl,rfl⟩)|(go_at_call 122;refine (zbi h2 _).mono ?_;rintro e w2 ⟨rfl,rfl⟩))
  go_ret
  exact ⟨rfl,rfl⟩
 ·rw [show zxw la og=zt9 ((la-og)*2500000000 / 1500) from if_neg h3]
  have r1:IntKind.i64.wrap (la-og)=la-og:=by rw [IntKind.wrap_i64];omega
  have r2:IntKind.i64.wrap ((la-og)*2500000000)=(la-og)*2500000000:=by rw [IntKind.wrap_i64];omega
  have ed:=zem (x:=(la-og)*2500000000) (by omega) 1500
  have hn:(la-og)*2500000000 / 1500≤9223372036854775807:=by omega
  have r3:IntKind.i64.wrap ((la-og)*2500000000 / 1500)=(la-og)*2500000000 / 1500:=by rw [IntKind.wrap_i64];omega
  have hr:=fun w=>zoq _ _ w hn (zsn hn)
  obtain ⟨r,hr'⟩:∃r,zt9 ((la-og)*2500000000 / 1500)=r:=⟨_,rfl⟩
  rw [hr'] at hr ⊢
  clear hr'
  have HR:Hid (∀w:World,Calls Tryz.prog 189 #[.int .i64 ((la-og)*2500000000 / 1500)] w fun e w'=>e=.returned (.int .i64 r)∧w'=w):=hr
  clear hr
  go_enter Tryz.func166,Tryz.ntmps166
  go_wp2_with (first|(go_at_call 122;refine (zbi h1 _).mono ?_;rintro e w2 ⟨rfl,rfl⟩)|(go_at_call 122;refine (zbi h2 _).mono ?_;rintro e w2 ⟨rfl,rfl⟩)|(go_at_call 189;(try rw [ed]);refine (HR.out _).mono ?_;rintro e w2 ⟨rfl,rfl⟩))
  go_ret
  exact ⟨rfl,rfl⟩
theorem zx5 {x:Int} (h:0≤x) (w:World):Calls Tryz.prog 167 #[.int .i64 x] w fun e w'=>e=.returned (.int .i64 x)∧w'=w:=by
 have h':¬x<0:=by omega
 go_enter Tryz.func167,Tryz.ntmps167
 go_wp2
 go_ret
 exact ⟨rfl,rfl⟩
theorem zg6 {x n:Int} (h:x = -n) (h0:0<n) (h1:n≤1000000) (w:World):Calls Tryz.prog 167 #[.int .i64 x] w fun e w'=>e=.returned (.int .i64 n)∧w'=w:=by
 have h':x<0:=by omega
 have e0:IntKind.i64.wrap (-x)=n:=by rw [IntKind.wrap_i64];omega
 go_enter Tryz.func167,Tryz.ntmps167
 go_wp2
 go_ret
 exact ⟨rfl,rfl⟩
theorem md10 {N:Int} (h0:0≤N) (h1:N≤1000000000000000000) (w:World):Calls Tryz.prog 168 #[.int .i64 N,.int .i64 6000,.int .i64 10000000000] w fun e w'=>e=.returned (.tuple #[.int .i64 (N*6000 / 10000000000),.bool true])∧w'=w:=by
 have hk:zh9 N 6000 10000000000=true:=by unfold zh9;exact decide_eq_true (by omega)
 have hq:mdQ N 6000 10000000000=N*6000 / 10000000000:=by unfold mdQ;rw [hk];rfl
 have:=zfh N 6000 10000000000 w (by omega) (by omega) (by omega)
 rwa [hk,hq] at this
theorem zk2 (la og ms:Int) (w:World) (h:zdo la og = -1):Calls Tryz.prog 137 #[.int .i64 la,.int .i64 og,.int .i64 ms] w fun e w'=>e=.returned (.int .i64 (-1))∧w'=w:=by
 have hT:=zc4 la og
 rw [h] at hT
 go_enter Tryz.func137,Tryz.ntmps137
 go_wp2_with (first|(go_at_call 166;refine (hT _).mono ?_;rintro e w2 ⟨rfl,rfl⟩))
 go_ret
 exact ⟨rfl,rfl⟩
theorem zx6 {x:Int} {f:Bool} (h:zo7 x=f) (w:World):Calls Tryz.prog 48 #[.int .i64 x,.int .i64 0,.int .i64 1000000] w fun e w'=>e=.returned (.bool f)∧w'=w:=by subst h;exact zew 0 x 1000000 w
theorem zk3 (la og ms:Int) (w:World) {k:Int} (hk:zdo la og=k) (h0:0≤k) (h:zo7 ms=false):Calls Tryz.prog 137 #[.int .i64 la,.int .i64 og,.int .i64 ms] w fun e w'=>e=.returned (.int .i64 (-1))∧w'=w:=by
 have hT:=zc4 la og
 rw [hk] at hT
 clear hk
 have h0':¬k<0:=by omega
 go_enter Tryz.func137,Tryz.ntmps137
 go_wp2_with (first|(go_at_call 166;refine (hT _).mono ?_;rintro e w2 ⟨rfl,rfl⟩)|(go_at_call 48;refine (zx6 h _).mono ?_;rintro e w2 ⟨rfl,rfl⟩))
 go_ret
 exact ⟨rfl,rfl⟩
theorem zmb (la og ms:Int) (w:World) {k:Int} (hk:zdo la og=k) (h0:0≤k) (hm:zo7 ms=true) (hd:k≤ms) (l0:0≤la) (l1:la≤1000000000) :
 Calls Tryz.prog 137 #[.int .i64 la,.int .i64 og,.int .i64 ms] w fun e w'=>e=.returned (.int .i64 (min 1000000000 (max 0 (la+cubD (ms-k)))))∧w'=w:=by
 have hT:=zc4 la og
 rw [hk] at hT
 clear hk
 have h0':¬k<0:=by omega
 have hm':=hm
 unfold zo7 at hm'
 simp only [Bool.and_eq_true,decide_eq_true_eq] at hm'
 obtain ⟨m0,m1⟩:=hm'
 have r1:IntKind.i64.wrap (ms-k)=ms-k:=by rw [IntKind.wrap_i64];omega
 obtain ⟨n,hn⟩:∃n,ms-k=n:=⟨_,rfl⟩
 have n0:0≤n:=by omega
 have n1:n≤1000000:=by omega
 rw [hn] at r1 ⊢
 have hn':¬n<0:=by omega
 obtain ⟨⟨a0,a1⟩,b0,b1⟩:=zzr n0 n1
 have s2:IntKind.i64.wrap (n*n)=n*n:=by rw [IntKind.wrap_i64];omega
 have s3:IntKind.i64.wrap (n*n*n)=n*n*n:=by rw [IntKind.wrap_i64];omega
 have hM:=fun w=>md10 b0 b1 w
 have hX:cubD n=n*n*n*6000 / 10000000000:=rfl
 obtain ⟨X,hx⟩:∃X,n*n*n*6000 / 10000000000=X:=⟨_,rfl⟩
 have X0:0≤X:=by omega
 have X1:X≤1000000000000:=by omega
 rw [hx] at hM hX
 rw [hX]
 clear hX hx
 have s4:IntKind.i64.wrap (la+X)=la+X:=by rw [IntKind.wrap_i64];omega
 go_enter Tryz.func137,Tryz.ntmps137
 go_wp2_with (first|(go_at_call 166;refine (hT _).mono ?_;rintro e w2 ⟨rfl,rfl⟩)|(go_at_call 48;refine (zx6 hm _).mono ?_;rintro e w2 ⟨rfl,rfl⟩)|(go_at_call 167;(try rw [hn]);refine (zx5 n0 _).mono ?_;rintro e w2 ⟨rfl,rfl⟩)|(go_at_call 168;refine (hM _).mono ?_;rintro e w2 ⟨rfl,rfl⟩)|(go_at_call 83;refine (zav _ _ _).mono ?_;rintro e w2 ⟨rfl,rfl⟩)|(go_at_call 84;refine (za9 _ _ _).mono ?_;rintro e w2 ⟨rfl,rfl⟩))
 go_ret
 exact ⟨rfl,rfl⟩
theorem zj1 (la og ms:Int) (w:World) {k:Int} (hk:zdo la og=k) (h0:0≤k) (k1:k≤1000000) (hm:zo7 ms=true) (hd:ms<k) (l0:0≤la) (l1:la≤1000000000) :
 Calls Tryz.prog 137 #[.int .i64 la,.int .i64 og,.int .i64 ms] w fun e w'=>e=.returned (.int .i64 (min 1000000000 (max 0 (la+cubD (ms-k)))))∧w'=w:=by
 have hT:=zc4 la og
 rw [hk] at hT
 clear hk
 have h0':¬k<0:=by omega
 have hm':=hm
 unfold zo7 at hm'
 simp only [Bool.and_eq_true,decide_eq_true_eq] at hm'
 obtain ⟨m0,m1⟩:=hm'
 obtain ⟨n,hn⟩:∃n,k-ms=n:=⟨_,rfl⟩
 have n0:0<n:=by omega
 have n1:n≤1000000:=by omega
 have hd':ms-k = -n:=by omega
 have r1:IntKind.i64.wrap (ms-k)=ms-k:=by rw [IntKind.wrap_i64];omega
 have hneg:ms-k<0:=by omega
 obtain ⟨⟨a0,a1⟩,b0,b1⟩:=zzr (show 0≤n by omega) n1
 have s2:IntKind.i64.wrap (n*n)=n*n:=by rw [IntKind.wrap_i64];omega
 have s3:IntKind.i64.wrap (n*n*n)=n*n*n:=by rw [IntKind.wrap_i64];omega
 have hM:=fun w=>md10 b0 b1 w
 obtain ⟨y,hy⟩:∃y,y=n*n*n % 10000000000*4*1500 % 10000000000:=⟨_,rfl⟩
 have hX:=zvu hy
 rw [←hd'] at hX
 rw [hX]
 clear hX
 have t1:(n*n*n).tmod 10000000000=n*n*n % 10000000000:=Int.tmod_eq_emod_of_nonneg b0
 obtain ⟨r,hr⟩:∃r,n*n*n % 10000000000=r:=⟨_,rfl⟩
 have q0:0≤r:=by omega
 have q1:r<10000000000:=by omega
 obtain ⟨X,hx⟩:∃X,n*n*n*6000 / 10000000000=X:=⟨_,rfl⟩
 have X0:0≤X:=by omega
 have X1:X≤1000000000000:=by omega
 rw [hr] at t1 hy
 rw [hx] at hM ⊢
 clear hr hx
 have s4:IntKind.i64.wrap (r*4)=r*4:=by rw [IntKind.wrap_i64];omega
 have s5:IntKind.i64.wrap (r*4*1500)=r*4*1500:=by rw [IntKind.wrap_i64];omega
 have t2:(r*4*1500).tmod 10000000000=r*4*1500 % 10000000000:=Int.tmod_eq_emod_of_nonneg (by omega)
 rw [←hy] at t2
 by_cases hy0:y=0
 ·rw [if_pos hy0]
  subst hy0
  have s6:IntKind.i64.wrap (-X) = -X:=by rw [IntKind.wrap_i64];omega
  have s7:IntKind.i64.wrap (la+-X)=la+-X:=by rw [IntKind.wrap_i64];omega
  clear hy
  go_enter Tryz.func137,Tryz.ntmps137
  go_wp2_with (first|(go_at_call 166;refine (hT _).mono ?_;rintro e w2 ⟨rfl,rfl⟩)|(go_at_call 48;refine (zx6 hm _).mono ?_;rintro e w2 ⟨rfl,rfl⟩)|(go_at_call 167;refine (zg6 hd' n0 n1 _).mono ?_;rintro e w2 ⟨rfl,rfl⟩)|(go_at_call 167;refine (zg6 (x:=-n) rfl n0 n1 _).mono ?_;rintro e w2 ⟨rfl,rfl⟩)|(go_at_call 168;refine (hM _).mono ?_;rintro e w2 ⟨rfl,rfl⟩)|(go_at_call 83;refine (zav _ _ _).mono ?_;rintro e w2 ⟨rfl,rfl⟩)|(go_at_call 84;refine (za9 _ _ _).mono ?_;rintro e w2 ⟨rfl,rfl⟩))
  go_ret
  exact ⟨rfl,rfl⟩
 ·rw [if_neg hy0]
  have s6:IntKind.i64.wrap (X+1)=X+1:=by rw [IntKind.wrap_i64];omega
  have s7:IntKind.i64.wrap (-(X+1)) = -(X+1):=by rw [IntKind.wrap_i64];omega
  have s8:IntKind.i64.wrap (la+-(X+1))=la+-(X+1):=by rw [IntKind.wrap_i64];omega
  clear hy
  go_enter Tryz.func137,Tryz.ntmps137
  go_wp2_with (first|(go_at_call 166;refine (hT _).mono ?_;rintro e w2 ⟨rfl,rfl⟩)|(go_at_call 48;refine (zx6 hm _).mono ?_;rintro e w2 ⟨rfl,rfl⟩)|(go_at_call 167;refine (zg6 hd' n0 n1 _).mono ?_;rintro e w2 ⟨rfl,rfl⟩)|(go_at_call 167;refine (zg6 (x:=-n) rfl n0 n1 _).mono ?_;rintro e w2 ⟨rfl,rfl⟩)|(go_at_call 168;refine (hM _).mono ?_;rintro e w2 ⟨rfl,rfl⟩)|(go_at_call 83;refine (zav _ _ _).mono ?_;rintro e w2 ⟨rfl,rfl⟩)|(go_at_call 84;refine (za9 _ _ _).mono ?_;rintro e w2 ⟨rfl,rfl⟩))
  go_ret
  exact ⟨rfl,rfl⟩
theorem zdp (la og ms:Int) (w:World):Calls Tryz.prog 137 #[.int .i64 la,.int .i64 og,.int .i64 ms] w fun e w'=>e=.returned (.int .i64 (zf9 la og ms))∧w'=w:=by
 by_cases h12:zf4 la=true∧zf4 og=true
 ·have hk:zdo la og=zxw la og:=if_pos h12
  obtain ⟨l0,l1⟩:=zc3 h12.1
  obtain ⟨o0,o1⟩:=zc3 h12.2
  obtain ⟨k0,k1⟩:=z0s o0 l1
  cases hm:zo7 ms
  ·rw [show zf9 la og ms = -1 from if_neg (fun h=>by rw [hm] at h;cases h.2)]
   exact zk3 la og ms w hk k0 hm
  ·rw [show zf9 la og ms=z0r la og ms from if_pos ⟨h12,hm⟩]
   unfold z0r
   rcases Int.lt_or_le ms (zxw la og) with hd|hd
   ·exact zj1 la og ms w hk k0 k1 hm hd l0 l1
   ·exact zmb la og ms w hk k0 hm hd l0 l1
 ·rw [show zf9 la og ms = -1 from if_neg (fun h=>h12 h.1)]
  exact zk2 la og ms w (if_neg h12)
end Go.Proofs.YthiojkjcmhojoaaGreat
