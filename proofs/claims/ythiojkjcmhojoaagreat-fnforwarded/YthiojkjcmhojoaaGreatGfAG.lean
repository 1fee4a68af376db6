import Derived.Test.YthiojkjcmhojoaaGreatGfAF
import Derived.Deep.RegionHeld3
namespace Go.Proofs.YthiojkjcmhojoaaGreat
set_option maxHeartbeats 1000000
open Go.ChangeShapes Go.WideShapes Go.ChangeAt Go.RowKit
set_option maxRecDepth 100000
set_option linter.unusedVariables false
set_option linter.unusedSimpArgs false
theorem ret_b {f g:Bool} (h:f=g):Ending.returned (.bool f)=.returned (.bool g):=by rw [h]
def ISmp (B:Nat) (w:World) (a:Option Addr) (xs:List Int):Prop:=∀i (h:i<xs.length),∃b off,a=some ⟨b,off,none⟩∧b<B∧w.cell? ⟨b,off+i,none⟩=some (.int .i64 xs[i])
theorem ISmp.at {B:Nat} {w w':World} {a:Option Addr} {xs:List Int} (h:ISmp B w a xs) (hb:Below B w w') (i:Nat) (hi:i<xs.length):∃b off,a=some ⟨b,off,none⟩∧b<B∧w'.cell? ⟨b,off+i,none⟩=some (.int .i64 xs[i]):=by
 obtain ⟨b,off,e,hl,c⟩:=h i hi
 exact ⟨b,off,e,hl,(hb.cell (by exact hl)).trans c⟩
theorem IFill.smp {w:World} {g n B:Nat} {xs:List Int} (f:IFill w g n xs xs.length) (h:g<B):ISmp B w (some ⟨g,0,none⟩) xs:=fun i hi=>⟨g,0,rfl,h,by rw [Nat.zero_add];exact f.got i hi hi⟩
theorem zsr (B:Nat) (w:World) (a:Option Addr):ISmp B w a []:=fun i h=>by cases h
theorem IV.smp {w:World} {lo:Nat} {v:Value} {xs:List Int} (h:IV w lo v xs):∃a cap,v=.slice a xs.length cap∧ISmp w.heap.size w a xs:=by
 rcases h with ⟨g,cap,rfl,h1,h2,f,hc⟩|⟨rfl,rfl⟩
 ·exact ⟨_,_,rfl,f.smp h2⟩
 ·exact ⟨none,0,rfl,zsr _ _ _⟩
theorem IFill.again {w:World} {g n m:Nat} {xs:List Int} (f:IFill w g n xs m) (ys:List Int):IFill w g n ys 0:=⟨f.any,fun i hi hk=>by omega⟩
theorem IFill.put {w:World} {g n k:Nat} {xs:List Int} (f:IFill w g n xs k) (hk:k<xs.length) (hn:xs.length≤n):IFill (w.setCell ⟨g,k,none⟩ (.int .i64 xs[k])) g n xs (k+1) where
 any:=fun j hj=>by
  refine ⟨?_,by simpa using (f.any j hj).2⟩
  obtain ⟨z,hz⟩:=(f.any j hj).1
  by_cases e:k=j
  ·subst e
   exact ⟨_,zbt _ hz⟩
  ·exact ⟨z,(World.cell?_setCell_other _ _ _ _ (fun e'=>e (by injection e' with _ e' _))).trans hz⟩
 got:=fun i hi hik=>by
  by_cases e:k=i
  ·subst e
   obtain ⟨z,hz⟩:=(f.any k (by omega)).1
   exact zbt _ hz
  ·exact (World.cell?_setCell_other _ _ _ _ (fun e'=>e (by injection e' with _ e' _))).trans (f.got i hi (by omega))
structure OnlyI (lo hi:Nat) (w w':World):Prop where
 os:w'.os=w.os
 tape:w'.tape=w.tape
 output:w'.output=w.output
 size:w.heap.size≤w'.heap.size
 block:∀k,k<w.heap.size→(k<lo∨hi≤k)→w'.heap[k]?=w.heap[k]?
theorem OnlyI.refl (lo hi:Nat) (w:World):OnlyI lo hi w w:=⟨rfl,rfl,rfl,Nat.le_refl _,fun _ _ _=>rfl⟩
theorem OnlyI.trans {lo hi:Nat} {u v w:World} (h:OnlyI lo hi u v) (k:OnlyI lo hi v w):OnlyI lo hi u w :=
 ⟨k.os.trans h.os,k.tape.trans h.tape,k.output.trans h.output,Nat.le_trans h.size k.size,fun b hb hn=>(k.block b (Nat.lt_of_lt_of_le hb h.size) hn).trans (h.block b hb hn)⟩
theorem OnlyI.of_below {lo hi:Nat} {w w':World} (h:Below w.heap.size w w'):OnlyI lo hi w w':=⟨h.os,h.tape,h.output,h.size,fun k hk _=>h.block k hk⟩
theorem OnlyI.below {lo hi B:Nat} {w w':World} (h:OnlyI lo hi w w') (hl:B≤lo) (hB:B≤w.heap.size):Below B w w' :=
 ⟨h.os,h.tape,h.output,h.size,fun k hk=>h.block k (by omega) (by omega)⟩
theorem OnlyI.ofO {lo hi:Nat} {o:Option Nat} {w w':World} (h:OnlyO o w w') (ho:∀g,o=some g→lo≤g∧g<hi):OnlyI lo hi w w' :=
 ⟨h.os,h.tape,h.output,h.size,fun k hk hn=>h.block k hk (fun e=>by have:=ho k e;omega)⟩
theorem OnlyI.wider {lo hi lo' hi':Nat} {w w':World} (h:OnlyI lo hi w w') (h1:lo'≤lo) (h2:hi≤hi'):OnlyI lo' hi' w w':=⟨h.os,h.tape,h.output,h.size,fun k hk hn=>h.block k hk (by omega)⟩
theorem OnlyI.cell {lo hi:Nat} {w w':World} (h:OnlyI lo hi w w') {p:Addr} (hp:p.block<w.heap.size) (hn:p.block<lo∨hi≤p.block):w'.cell? p=w.cell? p:=World.cell?_of_block (w:=w) (h.block p.block hp hn)
theorem OnlyI.frozen {lo hi:Nat} {w w':World} (h:OnlyI lo hi w w') {p:Addr} (hp:p.block<w.heap.size) (hn:p.block<lo∨hi≤p.block):w'.frozen? p=w.frozen? p:=World.frozen?_of_block (w:=w) (h.block p.block hp hn)
theorem OnlyI.setCell {lo hi:Nat} {w w':World} (h:OnlyI lo hi w w') {b i:Nat} (h1:lo≤b) (h2:b<hi) (v:Value):OnlyI lo hi w (w'.setCell ⟨b,i,none⟩ v) :=
 h.trans ⟨rfl,rfl,rfl,by simp,fun k _ hn=>Below.heap_setCell _ _ _ _ (by show k≠b;omega)⟩
theorem Cells.onlyI {lo hi:Nat} {w w':World} (ho:OnlyI lo hi w w'):∀{cs:List (Nat × Nat × Value)},(∀c ∈ cs,c.1<lo∨hi≤c.1)→Cells w cs→Cells w' cs
 | [],_,_=>trivial
 | (b,o,v) :: r,h,⟨⟨h1,h2⟩,h3⟩=>⟨⟨Nat.lt_of_lt_of_le h1 ho.size,(ho.cell (p:=⟨b,o,none⟩) h1 (h (b,o,v) (List.mem_cons_self ..))).trans h2⟩,Cells.onlyI ho (fun c hc=>h c (List.mem_cons_of_mem _ hc)) h3⟩
theorem newB (w:World) (o:Obj):Below w.heap.size w (w.alloc o):=(Below.refl _ _).alloc (Nat.le_refl _) _
abbrev F8:=Int × Int × List Int
theorem ISmp.mono {B:Nat} {w w':World} {a:Option Addr} {xs:List Int} (h:ISmp B w a xs) (hb:Below B w w'):ISmp B w' a xs:=fun i hi=>h.at hb i hi
theorem ISmp.up {B B':Nat} {w:World} {a:Option Addr} {xs:List Int} (h:ISmp B w a xs) (hb:B≤B'):ISmp B' w a xs:=fun i hi=>by
 obtain ⟨b,off,e,hl,c⟩:=h i hi
 exact ⟨b,off,e,Nat.lt_of_lt_of_le hl hb,c⟩
theorem ISmp.here {w x:World} {a:Option Addr} {xs:List Int} (h:ISmp w.heap.size w a xs) (hb:Below w.heap.size w x):ISmp x.heap.size x a xs:=(h.mono hb).up hb.size
def Fls (B:Nat) (w:World) (a:Option Addr) (fs:List F8):Prop :=
 ∀i (h:i<fs.length),∃b off sa sc,a=some ⟨b,off,none⟩∧b<B∧w.cell? ⟨b,off+i*3,none⟩=some (.int .i64 fs[i].1)∧w.cell? ⟨b,off+i*3+1,none⟩=some (.int .i64 fs[i].2.1)∧w.cell? ⟨b,off+i*3+2,none⟩=some (.slice sa fs[i].2.2.length sc)∧ISmp B w sa fs[i].2.2
theorem Fls.nil (B:Nat) (w:World) (a:Option Addr):Fls B w a []:=fun i h=>by cases h
theorem Fls.mono {B:Nat} {w w':World} {a:Option Addr} {fs:List F8} (h:Fls B w a fs) (hb:Below B w w'):Fls B w' a fs:=fun i hi=>by
 obtain ⟨b,off,sa,sc,e,hl,c0,c1,c2,s⟩:=h i hi
 exact ⟨b,off,sa,sc,e,hl,(hb.cell (by exact hl)).trans c0,(hb.cell (by exact hl)).trans c1,(hb.cell (by exact hl)).trans c2,s.mono hb⟩
theorem Fls.up {B B':Nat} {w:World} {a:Option Addr} {fs:List F8} (h:Fls B w a fs) (hb:B≤B'):Fls B' w a fs:=fun i hi=>by
 obtain ⟨b,off,sa,sc,e,hl,c0,c1,c2,s⟩:=h i hi
 exact ⟨b,off,sa,sc,e,Nat.lt_of_lt_of_le hl hb,c0,c1,c2,s.up hb⟩
theorem Fls.here {w x:World} {a:Option Addr} {fs:List F8} (h:Fls w.heap.size w a fs) (hb:Below w.heap.size w x):Fls x.heap.size x a fs:=(h.mono hb).up hb.size
theorem Fls.at {B:Nat} {w:World} {a:Option Addr} {fs:List F8} (h:Fls B w a fs) {w':World} (hb:Below B w w') (i:Nat) (hi:i<fs.length) :
 ∃b off sa sc,a=some ⟨b,off,none⟩∧b<B∧w'.cell? ⟨b,off+i*3,none⟩=some (.int .i64 fs[i].1)∧w'.cell? ⟨b,off+i*3+1,none⟩=some (.int .i64 fs[i].2.1)∧w'.cell? ⟨b,off+i*3+2,none⟩=some (.slice sa fs[i].2.2.length sc)∧ISmp B w' sa fs[i].2.2:=h.mono hb i hi
def elB:Value→Option Nat
 | .slice (some a) (_+1) _=>some a.block
 | _=>none
def IO (w:World) (lo hi:Nat) (v:Value) (xs:List Int):Prop :=
 ∃a cap,v=.slice a xs.length cap∧xs.length≤cap∧(xs=[]∨∃g off,a=some ⟨g,off,none⟩∧lo≤g∧g<hi∧g<w.heap.size∧∀i (h:i<xs.length),w.cell? ⟨g,off+i,none⟩=some (.int .i64 xs[i])∧w.frozen? ⟨g,off+i,none⟩=false)
theorem IO.el {w:World} {lo hi:Nat} {v:Value} {xs:List Int} (h:IO w lo hi v xs) {b:Nat} (hb:elB v=some b):lo≤b∧b<hi∧b<w.heap.size:=by
 obtain ⟨a,cap,rfl,_,h⟩:=h
 rcases h with rfl|⟨g,off,rfl,h1,h2,h3,_⟩
 ·cases a <;> cases hb
 ·cases hn:xs.length with
  | zero=>rw [hn] at hb;cases hb
  | succ n =>
   rw [hn] at hb
   have e:g=b:=Option.some.inj hb
   subst e
   exact ⟨h1,h2,h3⟩
theorem IO.smp {w:World} {lo hi:Nat} {v:Value} {xs:List Int} (h:IO w lo hi v xs):∃a cap,v=.slice a xs.length cap∧xs.length≤cap∧ISmp w.heap.size w a xs:=by
 obtain ⟨a,cap,rfl,hc,h⟩:=h
 rcases h with rfl|⟨g,off,rfl,h1,h2,h3,h4⟩
 ·exact ⟨a,cap,rfl,hc,zsr _ _ _⟩
 ·exact ⟨_,_,rfl,hc,fun i hi=>⟨g,off,rfl,h3,(h4 i hi).1⟩⟩
theorem IO.same {w w':World} {lo hi:Nat} {v:Value} {xs:List Int} (h:IO w lo hi v xs) (hs:w.heap.size≤w'.heap.size) (hb:∀b,elB v=some b→w'.heap[b]?=w.heap[b]?):IO w' lo hi v xs:=by
 obtain ⟨a,cap,rfl,hc,h⟩:=h
 refine ⟨a,cap,rfl,hc,?_⟩
 rcases h with rfl|⟨g,off,rfl,h1,h2,h3,h4⟩
 ·exact .inl rfl
 ·cases hn:xs with
  | nil=>exact .inl rfl
  | cons x r =>
   rw [←hn]
   have e:=hb g (by rw [hn];rfl)
   exact .inr ⟨g,off,rfl,h1,h2,Nat.lt_of_lt_of_le h3 hs,fun i hi=>⟨(World.cell?_of_block (a:=⟨g,off+i,none⟩) e).trans (h4 i hi).1,(World.frozen?_of_block (a:=⟨g,off+i,none⟩) e).trans (h4 i hi).2⟩⟩
theorem IO.wider {w:World} {lo hi lo' hi':Nat} {v:Value} {xs:List Int} (h:IO w lo hi v xs) (h1:lo'≤lo) (h2:hi≤hi'):IO w lo' hi' v xs:=by
 obtain ⟨a,cap,rfl,hc,h⟩:=h
 refine ⟨a,cap,rfl,hc,?_⟩
 rcases h with rfl|⟨g,off,rfl,k1,k2,h3⟩
 ·exact .inl rfl
 ·exact .inr ⟨g,off,rfl,by omega,by omega,h3⟩
theorem IV.io {w:World} {lo:Nat} {v:Value} {xs:List Int} (h:IV w lo v xs):IO w lo w.heap.size v xs:=by
 rcases h with ⟨g,cap,rfl,h1,h2,f,hc⟩|⟨rfl,rfl⟩
 ·exact ⟨_,cap,rfl,hc,.inr ⟨g,0,rfl,h1,h2,h2,fun i hi=>by rw [Nat.zero_add];exact ⟨f.got i hi hi,(f.any i hi).2⟩⟩⟩
 ·exact ⟨none,0,rfl,Nat.le_refl _,.inl rfl⟩
structure FO (w:World) (lo hi g n:Nat) (vs:List Value) (fs:List F8):Prop where
 g0:lo≤g
 g1:g<hi
 top:hi≤w.heap.size
 len:vs.length=fs.length
 le:fs.length≤n
 any:∀j,j<n*3→(∃z,w.cell? ⟨g,j,none⟩=some z)∧w.frozen? ⟨g,j,none⟩=false
 got:∀i (h:i<fs.length) (h':i<vs.length),w.cell? ⟨g,i*3,none⟩=some (.int .i64 fs[i].1)∧w.cell? ⟨g,i*3+1,none⟩=some (.int .i64 fs[i].2.1)∧w.cell? ⟨g,i*3+2,none⟩=some vs[i]
 own:∀i (h:i<fs.length) (h':i<vs.length),IO w lo hi vs[i] fs[i].2.2
 far:∀i (h':i<vs.length),elB vs[i]≠some g
 apart:∀i j (h:i<vs.length) (h':j<vs.length),i≠j→∀b,elB vs[i]=some b→elB vs[j]≠some b
theorem FO.same {w w':World} {lo hi g n:Nat} {vs:List Value} {fs:List F8} (h:FO w lo hi g n vs fs) (hs:w.heap.size≤w'.heap.size) (hb:∀b,lo≤b→b<hi→w'.heap[b]?=w.heap[b]?):FO w' lo hi g n vs fs:=by
 have eg:=hb g h.g0 h.g1
 refine ⟨h.g0,h.g1,Nat.le_trans h.top hs,h.len,h.le,fun j hj=>?_,fun i hi' h'=>?_,fun i hi' h'=>?_,h.far,h.apart⟩
 ·obtain ⟨⟨z,hz⟩,hf⟩:=h.any j hj
  exact ⟨⟨z,(World.cell?_of_block (a:=⟨g,j,none⟩) eg).trans hz⟩,(World.frozen?_of_block (a:=⟨g,j,none⟩) eg).trans hf⟩
 ·obtain ⟨c0,c1,c2⟩:=h.got i hi' h'
  exact ⟨(World.cell?_of_block (a:=⟨g,i*3,none⟩) eg).trans c0,(World.cell?_of_block (a:=⟨g,i*3+1,none⟩) eg).trans c1,(World.cell?_of_block (a:=⟨g,i*3+2,none⟩) eg).trans c2⟩
 ·have o:=h.own i hi' h'
  exact o.same hs (fun b e=>hb b (o.el e).1 (o.el e).2.1)
theorem FO.next {w w':World} {lo hi g n:Nat} {vs:List Value} {fs:List F8} (h:FO w lo hi g n vs fs) (hb:Below w.heap.size w w'):FO w' lo hi g n vs fs :=
 h.same hb.size (fun b _ h2=>hb.block b (Nat.lt_of_lt_of_le h2 h.top))
theorem FO.wider {w:World} {lo hi lo' hi' g n:Nat} {vs:List Value} {fs:List F8} (h:FO w lo hi g n vs fs) (h1:lo'≤lo) (h2:hi≤hi') (h3:hi'≤w.heap.size):FO w lo' hi' g n vs fs :=
 ⟨Nat.le_trans h1 h.g0,Nat.lt_of_lt_of_le h.g1 h2,h3,h.len,h.le,h.any,h.got,fun i hi' h'=>(h.own i hi' h').wider h1 h2,h.far,h.apart⟩
theorem FO.fls {w:World} {lo hi g n:Nat} {vs:List Value} {fs:List F8} (h:FO w lo hi g n vs fs):Fls w.heap.size w (some ⟨g,0,none⟩) fs:=fun i hi'=>by
 have h':i<vs.length:=by rw [h.len];exact hi'
 obtain ⟨c0,c1,c2⟩:=h.got i hi' h'
 obtain ⟨a,cap,e,_,s⟩:=(h.own i hi' h').smp
 rw [e] at c2
 have:=h.g1
 have:=h.top
 exact ⟨g,0,a,cap,rfl,by omega,by rw [Nat.zero_add];exact c0,by rw [Nat.zero_add];exact c1,by rw [Nat.zero_add];exact c2,s⟩
def TV (w:World) (lo hi:Nat) (v:Value) (fs:List F8):Prop :=
 (∃g cap vs,v=.slice (some ⟨g,0,none⟩) fs.length cap∧fs.length≤cap∧FO w lo hi g fs.length vs fs)∨(fs=[]∧∃a c,v=.slice a 0 c)
theorem TV.zero (w:World) (lo hi:Nat) (a:Option Addr) (c:Nat):TV w lo hi (.slice a 0 c) []:=.inr ⟨rfl,a,c,rfl⟩
theorem TV.same {w w':World} {lo hi:Nat} {v:Value} {fs:List F8} (h:TV w lo hi v fs) (hs:w.heap.size≤w'.heap.size) (hb:∀b,lo≤b→b<hi→b<w.heap.size→w'.heap[b]?=w.heap[b]?):TV w' lo hi v fs:=by
 rcases h with ⟨g,cap,vs,e,hc,f⟩|h
 ·exact .inl ⟨g,cap,vs,e,hc,f.same hs (fun b h1 h2=>hb b h1 h2 (Nat.lt_of_lt_of_le h2 f.top))⟩
 ·exact .inr h
theorem TV.next {w w':World} {lo hi:Nat} {v:Value} {fs:List F8} (h:TV w lo hi v fs) (hb:Below w.heap.size w w'):TV w' lo hi v fs:=h.same hb.size (fun b _ _ h3=>hb.block b h3)
theorem TV.onlyI {w w':World} {lo hi lo' hi':Nat} {v:Value} {fs:List F8} (h:TV w lo hi v fs) (hb:OnlyI lo' hi' w w') (hd:hi≤lo'∨hi'≤lo):TV w' lo hi v fs:=h.same hb.size (fun b h1 h2 h3=>hb.block b h3 (by omega))
theorem TV.wider {w:World} {lo hi lo' hi':Nat} {v:Value} {fs:List F8} (h:TV w lo hi v fs) (h1:lo'≤lo) (h2:hi≤hi') (h3:hi'≤w.heap.size):TV w lo' hi' v fs:=by
 rcases h with ⟨g,cap,vs,e,hc,f⟩|h
 ·exact .inl ⟨g,cap,vs,e,hc,f.wider h1 h2 h3⟩
 ·exact .inr h
theorem TV.fls {w:World} {lo hi n c:Nat} {a:Option Addr} {fs:List F8} (h:TV w lo hi (.slice a n c) fs):n=fs.length∧Fls w.heap.size w a fs:=by
 rcases h with ⟨g,cap,vs,e,hc,f⟩|⟨rfl,a',c',e⟩
 ·injection e with e1 e2 e3
  subst e1 e2
  exact ⟨rfl,f.fls⟩
 ·injection e with e1 e2 e3
  exact ⟨e2,Fls.nil _ _ _⟩
theorem TV.slice {w:World} {lo hi:Nat} {v:Value} {fs:List F8} (h:TV w lo hi v fs):∃a c,v=.slice a fs.length c:=by
 rcases h with ⟨g,cap,vs,e,hc,f⟩|⟨rfl,a',c',e⟩
 ·exact ⟨_,_,e⟩
 ·exact ⟨_,_,e⟩
def zua (w:World) (g o:Nat) (a b c:Value):World:=((w.setCell ⟨g,o,none⟩ a).setCell ⟨g,o+1,none⟩ b).setCell ⟨g,o+2,none⟩ c
theorem zg8 {w:World} {g o j:Nat} {a b c:Value} (h:j<o∨o+2<j):(zua w g o a b c).cell? ⟨g,j,none⟩=w.cell? ⟨g,j,none⟩ :=
 (zaf (by omega)).trans ((zaf (by omega)).trans (zaf (by omega)))
theorem zo8 {w:World} {g o:Nat} (a b c:Value) {z0 z1 z2:Value} (h0:w.cell? ⟨g,o,none⟩=some z0) (h1:w.cell? ⟨g,o+1,none⟩=some z1) (h2:w.cell? ⟨g,o+2,none⟩=some z2) :
 (zua w g o a b c).cell? ⟨g,o,none⟩=some a∧(zua w g o a b c).cell? ⟨g,o+1,none⟩=some b∧(zua w g o a b c).cell? ⟨g,o+2,none⟩=some c :=
 ⟨(zaf (by omega)).trans ((zaf (by omega)).trans (zbt _ h0)),
  (zaf (by omega)).trans (zbt _ ((zaf (by omega)).trans h1)),
  zbt _ ((zaf (by omega)).trans ((zaf (by omega)).trans h2))⟩
theorem zqz {w:World} {g o:Nat} (a b c:Value) (p:Addr):(zua w g o a b c).frozen? p=w.frozen? p:=by unfold zua;simp
theorem zid {w:World} {g o:Nat} {a b c:Value}:(zua w g o a b c).heap.size=w.heap.size:=by unfold zua;simp
theorem zmv {w:World} {g o:Nat} {a b c:Value} {k:Nat} (h:k≠g):(zua w g o a b c).heap[k]?=w.heap[k]?:=by
 unfold zua
 rw [Below.heap_setCell _ _ _ _ (by exact h),Below.heap_setCell _ _ _ _ (by exact h),Below.heap_setCell _ _ _ _ (by exact h)]
theorem FO.push {w:World} {lo hi g n k:Nat} {vs:List Value} {fs:List F8} (f:FO w lo hi g n vs fs) (ek:k=fs.length) (hk:k<n) (q d:Int) {v:Value} {xs:List Int} (hv:IO w lo w.heap.size v xs) (hn:∀b,elB v=some b→hi≤b) :
 FO (zua w g (k*3) (.int .i64 q) (.int .i64 d) v) lo w.heap.size g n (vs ++ [v]) (fs ++ [(q,d,xs)]):=by
 subst ek
 obtain ⟨⟨z0,h0⟩,_⟩:=f.any (fs.length*3) (by omega)
 obtain ⟨⟨z1,h1⟩,_⟩:=f.any (fs.length*3+1) (by omega)
 obtain ⟨⟨z2,h2⟩,_⟩:=f.any (fs.length*3+2) (by omega)
 obtain ⟨s0,s1,s2⟩:=zo8 (.int .i64 q) (.int .i64 d) v h0 h1 h2
 have g1:=f.g1
 have tp:=f.top
 have el:∀i (h':i<vs.length) b,elB vs[i]=some b→b<hi:=fun i h' b e=>((f.own i (by rw [←f.len];exact h') h').el e).2.1
 have at1:∀i (h:i<(vs ++ [v]).length),(∃h':i<vs.length,(vs ++ [v])[i]=vs[i])∨(i=fs.length∧(vs ++ [v])[i]=v):=fun i h=>by
  by_cases e:i<vs.length
  ·exact .inl ⟨e,List.getElem_append_left e⟩
  ·have e2:i=vs.length:=by simp at h;omega
   refine .inr ⟨e2.trans f.len,?_⟩
   subst e2
   simp
 refine ⟨f.g0,by omega,by rw [zid];exact Nat.le_refl _,by simp [f.len],by simp;omega,fun j hj=>⟨?_,(zqz _ _ _ _).trans (f.any j hj).2⟩,fun i hi' h'=>?_,fun i hi' h'=>?_,fun i h'=>?_,fun i j hi' hj' hne b e=>?_⟩
 ·by_cases e0:j=fs.length*3
  ·subst e0;exact ⟨_,s0⟩
  ·by_cases e1:j=fs.length*3+1
   ·subst e1;exact ⟨_,s1⟩
   ·by_cases e2:j=fs.length*3+2
    ·subst e2;exact ⟨_,s2⟩
    ·obtain ⟨z,hz⟩:=(f.any j hj).1
     exact ⟨z,(zg8 (by omega)).trans hz⟩
 ·rcases at1 i h' with ⟨k,e⟩|⟨k,e⟩
  ·have k':i<fs.length:=by rw [←f.len];exact k
   rw [e,List.getElem_append_left k']
   obtain ⟨c0,c1,c2⟩:=f.got i k' k
   exact ⟨(zg8 (by omega)).trans c0,(zg8 (by omega)).trans c1,(zg8 (by omega)).trans c2⟩
  ·rw [e]
   subst k
   simp only [List.getElem_append_right (Nat.le_refl _),Nat.sub_self,List.getElem_cons_zero]
   exact ⟨s0,s1,s2⟩
 ·rcases at1 i h' with ⟨k,e⟩|⟨k,e⟩
  ·have k':i<fs.length:=by rw [←f.len];exact k
   rw [e,List.getElem_append_left k']
   exact ((f.own i k' k).wider (Nat.le_refl _) tp).same (by rw [zid];exact Nat.le_refl _) (fun b eb=>zmv (fun e'=>f.far i k (by rw [eb,e'])))
  ·rw [e]
   subst k
   simp only [List.getElem_append_right (Nat.le_refl _),Nat.sub_self,List.getElem_cons_zero]
   exact hv.same (by rw [zid];exact Nat.le_refl _) (fun b eb=>zmv (by have:=hn b eb;omega))
 ·rcases at1 i h' with ⟨k,e⟩|⟨k,e⟩
  ·rw [e];exact f.far i k
  ·rw [e];intro e';have:=hn g e';omega
 ·rcases at1 i hi' with ⟨k,e1⟩|⟨k,e1⟩
  ·rw [e1] at e
   rcases at1 j hj' with ⟨k2,e2⟩|⟨k2,e2⟩
   ·rw [e2];exact f.apart i j k k2 hne b e
   ·rw [e2];intro e';have:=hn b e';have:=el i k b e;omega
  ·rw [e1] at e
   rcases at1 j hj' with ⟨k2,e2⟩|⟨k2,e2⟩
   ·rw [e2];intro e';have:=hn b e;have:=el j k2 b e';omega
   ·omega
theorem FO.turn {w w':World} {lo hi g n i:Nat} {vs:List Value} {fs:List F8} (f:FO w lo hi g n vs fs) (hi':i<fs.length) (hv:i<vs.length) {q d:Int} {v:Value} {xs:List Int} (hs:w.heap.size≤w'.heap.size)
 (hb:∀b,lo≤b→b<hi→b≠g→elB vs[i]≠some b→w'.heap[b]?=w.heap[b]?) (hc:∀j,j<i*3∨i*3+2<j→w'.cell? ⟨g,j,none⟩=w.cell? ⟨g,j,none⟩) (hf:∀j,w'.frozen? ⟨g,j,none⟩=w.frozen? ⟨g,j,none⟩)
 (c0:w'.cell? ⟨g,i*3,none⟩=some (.int .i64 q)) (c1:w'.cell? ⟨g,i*3+1,none⟩=some (.int .i64 d)) (c2:w'.cell? ⟨g,i*3+2,none⟩=some v) (ho:IO w' lo hi v xs) (he:∀b,elB v=some b→elB vs[i]=some b) :
 FO w' lo hi g n (vs.set i v) (fs.set i (q,d,xs)):=by
 have le:=f.le
 refine ⟨f.g0,f.g1,Nat.le_trans f.top hs,by simp [f.len],by simp [f.le],fun j hj=>⟨?_,(hf j).trans (f.any j hj).2⟩,fun k hk hk'=>?_,fun k hk hk'=>?_,fun k hk=>?_,fun k j hk hj hne b e=>?_⟩
 ·by_cases e0:j=i*3
  ·subst e0;exact ⟨_,c0⟩
  ·by_cases e1:j=i*3+1
   ·subst e1;exact ⟨_,c1⟩
   ·by_cases e2:j=i*3+2
    ·subst e2;exact ⟨_,c2⟩
    ·obtain ⟨z,hz⟩:=(f.any j hj).1
     exact ⟨z,(hc j (by omega)).trans hz⟩
 ·rw [List.getElem_set,List.getElem_set]
  by_cases e:i=k
  ·subst e
   rw [if_pos rfl,if_pos rfl]
   exact ⟨c0,c1,c2⟩
  ·rw [if_neg e,if_neg e]
   obtain ⟨k0,k1,k2⟩:=f.got k (by simpa using hk) (by simpa using hk')
   exact ⟨(hc _ (by omega)).trans k0,(hc _ (by omega)).trans k1,(hc _ (by omega)).trans k2⟩
 ·rw [List.getElem_set,List.getElem_set]
  by_cases e:i=k
  ·subst e
   rw [if_pos rfl,if_pos rfl]
   exact ho
  ·rw [if_neg e,if_neg e]
   have kv:k<vs.length:=by simpa using hk'
   have o:=f.own k (by simpa using hk) kv
   exact o.same hs (fun b eb=>hb b (o.el eb).1 (o.el eb).2.1 (fun e'=>f.far k kv (by rw [eb,e'])) (fun e'=>f.apart i k hv kv e b e' eb))
 ·rw [List.getElem_set]
  by_cases e:i=k
  ·rw [if_pos e]
   intro e'
   exact f.far i hv (he g e')
  ·rw [if_neg e]
   exact f.far k (by simpa using hk)
 ·rw [List.getElem_set] at e ⊢
  by_cases e1:i=k
  ·subst e1
   rw [if_pos rfl] at e
   rw [if_neg hne]
   exact f.apart i j hv (by simpa using hj) hne b (he b e)
  ·rw [if_neg e1] at e
   by_cases e2:i=j
   ·rw [if_pos e2]
    intro e'
    exact f.apart k i (by simpa using hk) hv (by omega) b e (he b e')
   ·rw [if_neg e2]
    exact f.apart k j (by simpa using hk) (by simpa using hj) hne b e
structure Kn where
 id:Int
 lf:Int
 pl:Int
 k:Int
 wn:Int
 th:Int
 fl:Int
 ac:Int
 la:Int
 og:Int
 st:Int
 fr:Int
 sl:Bool
 xs:List Int
def Kn.cs (c:Kn):List Value:=[.int .i64 c.id,.int .i64 c.lf,.int .i64 c.pl,.int .i64 c.k,.int .i64 c.wn,.int .i64 c.th,.int .i64 c.fl,.int .i64 c.ac,.int .i64 c.la,.int .i64 c.og,.int .i64 c.st,.int .i64 c.fr,.bool c.sl]
theorem Kn.len (c:Kn):c.cs.length=13:=rfl
def Kls (B:Nat) (w:World) (a:Option Addr) (ks:List Kn):Prop :=
 ∀i (h:i<ks.length),∃b off sa sc,a=some ⟨b,off,none⟩∧b<B∧(∀j v,ks[i].cs[j]?=some v→w.cell? ⟨b,off+i*14+j,none⟩=some v)∧w.cell? ⟨b,off+i*14+13,none⟩=some (.slice sa ks[i].xs.length sc)∧ISmp B w sa ks[i].xs
theorem Kls.nil (B:Nat) (w:World) (a:Option Addr):Kls B w a []:=fun i h=>by cases h
theorem Kls.mono {B:Nat} {w w':World} {a:Option Addr} {ks:List Kn} (h:Kls B w a ks) (hb:Below B w w'):Kls B w' a ks:=fun i hi=>by
 obtain ⟨b,off,sa,sc,e,hl,c0,c1,s⟩:=h i hi
 exact ⟨b,off,sa,sc,e,hl,fun j v hv=>(hb.cell (by exact hl)).trans (c0 j v hv),(hb.cell (by exact hl)).trans c1,s.mono hb⟩
theorem Kls.up {B B':Nat} {w:World} {a:Option Addr} {ks:List Kn} (h:Kls B w a ks) (hb:B≤B'):Kls B' w a ks:=fun i hi=>by
 obtain ⟨b,off,sa,sc,e,hl,c0,c1,s⟩:=h i hi
 exact ⟨b,off,sa,sc,e,Nat.lt_of_lt_of_le hl hb,c0,c1,s.up hb⟩
theorem Kls.here {w x:World} {a:Option Addr} {ks:List Kn} (h:Kls w.heap.size w a ks) (hb:Below w.heap.size w x):Kls x.heap.size x a ks:=(h.mono hb).up hb.size
theorem Kls.at {B:Nat} {w:World} {a:Option Addr} {ks:List Kn} (h:Kls B w a ks) {w':World} (hb:Below B w w') (i:Nat) (hi:i<ks.length) :
 ∃b off sa sc,a=some ⟨b,off,none⟩∧b<B∧(∀j v,ks[i].cs[j]?=some v→w'.cell? ⟨b,off+i*14+j,none⟩=some v)∧w'.cell? ⟨b,off+i*14+13,none⟩=some (.slice sa ks[i].xs.length sc)∧ISmp B w' sa ks[i].xs:=h.mono hb i hi
structure KO (w:World) (lo hi g n:Nat) (vs:List Value) (ks:List Kn):Prop where
 g0:lo≤g
 g1:g<hi
 top:hi≤w.heap.size
 len:vs.length=ks.length
 le:ks.length≤n
 any:∀j,j<n*14→(∃z,w.cell? ⟨g,j,none⟩=some z)∧w.frozen? ⟨g,j,none⟩=false
 got:∀i (h:i<ks.length) (h':i<vs.length),(∀j v,ks[i].cs[j]?=some v→w.cell? ⟨g,i*14+j,none⟩=some v)∧w.cell? ⟨g,i*14+13,none⟩=some vs[i]
 own:∀i (h:i<ks.length) (h':i<vs.length),IO w lo hi vs[i] ks[i].xs
 far:∀i (h':i<vs.length),elB vs[i]≠some g
 apart:∀i j (h:i<vs.length) (h':j<vs.length),i≠j→∀b,elB vs[i]=some b→elB vs[j]≠some b
theorem KO.same {w w':World} {lo hi g n:Nat} {vs:List Value} {ks:List Kn} (h:KO w lo hi g n vs ks) (hs:w.heap.size≤w'.heap.size) (hb:∀b,lo≤b→b<hi→w'.heap[b]?=w.heap[b]?):KO w' lo hi g n vs ks:=by
 have eg:=hb g h.g0 h.g1
 refine ⟨h.g0,h.g1,Nat.le_trans h.top hs,h.len,h.le,fun j hj=>?_,fun i hi' h'=>?_,fun i hi' h'=>?_,h.far,h.apart⟩
 ·obtain ⟨⟨z,hz⟩,hf⟩:=h.any j hj
  exact ⟨⟨z,(World.cell?_of_block (a:=⟨g,j,none⟩) eg).trans hz⟩,(World.frozen?_of_block (a:=⟨g,j,none⟩) eg).trans hf⟩
 ·obtain ⟨c0,c1⟩:=h.got i hi' h'
  exact ⟨fun j v hv=>(World.cell?_of_block (a:=⟨g,i*14+j,none⟩) eg).trans (c0 j v hv),(World.cell?_of_block (a:=⟨g,i*14+13,none⟩) eg).trans c1⟩
 ·have o:=h.own i hi' h'
  exact o.same hs (fun b e=>hb b (o.el e).1 (o.el e).2.1)
theorem KO.next {w w':World} {lo hi g n:Nat} {vs:List Value} {ks:List Kn} (h:KO w lo hi g n vs ks) (hb:Below w.heap.size w w'):KO w' lo hi g n vs ks :=
 h.same hb.size (fun b _ h2=>hb.block b (Nat.lt_of_lt_of_le h2 h.top))
theorem KO.wider {w:World} {lo hi lo' hi' g n:Nat} {vs:List Value} {ks:List Kn} (h:KO w lo hi g n vs ks) (h1:lo'≤lo) (h2:hi≤hi') (h3:hi'≤w.heap.size):KO w lo' hi' g n vs ks :=
 ⟨Nat.le_trans h1 h.g0,Nat.lt_of_lt_of_le h.g1 h2,h3,h.len,h.le,h.any,h.got,fun i hi' h'=>(h.own i hi' h').wider h1 h2,h.far,h.apart⟩
theorem KO.kls {w:World} {lo hi g n:Nat} {vs:List Value} {ks:List Kn} (h:KO w lo hi g n vs ks):Kls w.heap.size w (some ⟨g,0,none⟩) ks:=fun i hi'=>by
 have h':i<vs.length:=by rw [h.len];exact hi'
 obtain ⟨c0,c1⟩:=h.got i hi' h'
 obtain ⟨a,cap,e,_,s⟩:=(h.own i hi' h').smp
 rw [e] at c1
 have:=h.g1
 have:=h.top
 exact ⟨g,0,a,cap,rfl,by omega,fun j v hv=>by rw [Nat.zero_add];exact c0 j v hv,by rw [Nat.zero_add];exact c1,s⟩
def KV (w:World) (lo hi:Nat) (v:Value) (ks:List Kn):Prop :=
 (∃g cap vs,v=.slice (some ⟨g,0,none⟩) ks.length cap∧ks.length≤cap∧KO w lo hi g ks.length vs ks)∨(ks=[]∧∃a c,v=.slice a 0 c)
theorem KV.zero (w:World) (lo hi:Nat) (a:Option Addr) (c:Nat):KV w lo hi (.slice a 0 c) []:=.inr ⟨rfl,a,c,rfl⟩
theorem KV.same {w w':World} {lo hi:Nat} {v:Value} {ks:List Kn} (h:KV w lo hi v ks) (hs:w.heap.size≤w'.heap.size) (hb:∀b,lo≤b→b<hi→b<w.heap.size→w'.heap[b]?=w.heap[b]?):KV w' lo hi v ks:=by
 rcases h with ⟨g,cap,vs,e,hc,f⟩|h
 ·exact .inl ⟨g,cap,vs,e,hc,f.same hs (fun b h1 h2=>hb b h1 h2 (Nat.lt_of_lt_of_le h2 f.top))⟩
 ·exact .inr h
theorem KV.next {w w':World} {lo hi:Nat} {v:Value} {ks:List Kn} (h:KV w lo hi v ks) (hb:Below w.heap.size w w'):KV w' lo hi v ks:=h.same hb.size (fun b _ _ h3=>hb.block b h3)
theorem KV.onlyI {w w':World} {lo hi lo' hi':Nat} {v:Value} {ks:List Kn} (h:KV w lo hi v ks) (hb:OnlyI lo' hi' w w') (hd:hi≤lo'∨hi'≤lo):KV w' lo hi v ks:=h.same hb.size (fun b h1 h2 h3=>hb.block b h3 (by omega))
theorem KV.wider {w:World} {lo hi lo' hi':Nat} {v:Value} {ks:List Kn} (h:KV w lo hi v ks) (h1:lo'≤lo) (h2:hi≤hi') (h3:hi'≤w.heap.size):KV w lo' hi' v ks:=by
 rcases h with ⟨g,cap,vs,e,hc,f⟩|h
 ·exact .inl ⟨g,cap,vs,e,hc,f.wider h1 h2 h3⟩
 ·exact .inr h
theorem KV.kls {w:World} {lo hi n c:Nat} {a:Option Addr} {ks:List Kn} (h:KV w lo hi (.slice a n c) ks):n=ks.length∧Kls w.heap.size w a ks:=by
 rcases h with ⟨g,cap,vs,e,hc,f⟩|⟨rfl,a',c',e⟩
 ·injection e with e1 e2 e3
  subst e1 e2
  exact ⟨rfl,f.kls⟩
 ·injection e with e1 e2 e3
  exact ⟨e2,Kls.nil _ _ _⟩
theorem KV.slice {w:World} {lo hi:Nat} {v:Value} {ks:List Kn} (h:KV w lo hi v ks):∃a c,v=.slice a ks.length c:=by
 rcases h with ⟨g,cap,vs,e,hc,f⟩|⟨rfl,a',c',e⟩
 ·exact ⟨_,_,e⟩
 ·exact ⟨_,_,e⟩
theorem zba {g:Nat}:∀(vs:List Value) (o:Nat) (w:World),Only g w (w.setCells g o vs)
 | [],_,w=>Only.refl _ w
 | v :: r,o,w=>((Only.refl _ w).setCell (p:=⟨g,o,none⟩) rfl v).trans (zba r (o+1) _)
theorem zo9 {g:Nat}:∀(vs:List Value) (o:Nat) (w:World),(w.setCells g o vs).heap.size=w.heap.size
 | [],_,w=>rfl
 | v :: r,o,w=>(zo9 r (o+1) _).trans (by simp)
theorem zub {w:World} {g o:Nat} (vs:List Value) (hc:∀j,j<vs.length→(w.cell? ⟨g,o+j,none⟩).isSome=true):(∀j v,vs[j]?=some v→(w.setCells g o vs).cell? ⟨g,o+j,none⟩=some v)∧(∀i,i<o∨o+vs.length≤i→(w.setCells g o vs).cell? ⟨g,i,none⟩=w.cell? ⟨g,i,none⟩)∧(∀p,(w.setCells g o vs).frozen? p=w.frozen? p)∧Only g w (w.setCells g o vs) :=
 ⟨fun j v hv=>by
  have hj:=(List.getElem?_eq_some_iff.1 hv).1
  rw [World.cell?_setCells_in g vs o w hc j hj]
  exact congrArg some (List.getElem?_eq_some_iff.1 hv).2,fun i hi=>World.cell?_setCells_out g vs o w ⟨g,i,none⟩ (fun _ _=>hi),fun p=>World.frozen?_setCells g vs o w p,zba vs o w⟩
theorem KO.push {w:World} {lo hi g n k:Nat} {vs:List Value} {ks:List Kn} (f:KO w lo hi g n vs ks) (ek:k=ks.length) (hk:k<n) (c:Kn) {v:Value} (hv:IO w lo w.heap.size v c.xs) (hn:∀b,elB v=some b→hi≤b) :
 KO (w.setCells g (k*14) (c.cs ++ [v])) lo w.heap.size g n (vs ++ [v]) (ks ++ [c]):=by
 subst ek
 have hl:(c.cs ++ [v]).length=14:=rfl
 have hc:∀j,j<(c.cs ++ [v]).length→(w.cell? ⟨g,ks.length*14+j,none⟩).isSome=true:=fun j hj=>by
  rw [hl] at hj
  obtain ⟨⟨z,hz⟩,_⟩:=f.any (ks.length*14+j) (by omega)
  rw [hz]
  rfl
 obtain ⟨s1,s2,s3,s4⟩:=zub (c.cs ++ [v]) hc
 obtain ⟨w',hw'⟩:∃w',w'=w.setCells g (ks.length*14) (c.cs ++ [v]):=⟨_,rfl⟩
 rw [←hw'] at s1 s2 s3 s4 ⊢
 have zs:=s4.size
 have ze:w'.heap.size=w.heap.size:=by rw [hw'];exact zo9 _ _ _
 have g1:=f.g1
 have top:=f.top
 have same:∀{u:Value} {xs:List Int} {a b:Nat},IO w a b u xs→elB u≠some g→IO w' a b u xs:=fun o hne=>o.same zs (fun b e=>s4.block b (o.el e).2.2 (fun e'=>hne (by rw [e,e'])))
 have hvg:elB v≠some g:=fun e=>by have:=hn g e;omega
 refine ⟨f.g0,by omega,by omega,by simp [f.len],by rw [List.length_append];simp;omega,fun j hj=>?_,fun i h h'=>?_,fun i h h'=>?_,fun i h'=>?_,fun i j h h' hne b hb=>?_⟩
 ·obtain ⟨⟨z,hz⟩,hf⟩:=f.any j hj
  refine ⟨?_,(s3 _).trans hf⟩
  by_cases hj':j<ks.length*14∨ks.length*14+14≤j
  ·exact ⟨z,(s2 j (by rw [hl];exact hj')).trans hz⟩
  ·obtain ⟨u,hu⟩:∃u,(c.cs ++ [v])[j-ks.length*14]?=some u:=⟨_,List.getElem?_eq_getElem (by rw [hl];omega)⟩
   have:=s1 (j-ks.length*14) u hu
   rw [show ks.length*14+(j-ks.length*14)=j by omega] at this
   exact ⟨u,this⟩
 ·by_cases e:i<ks.length
  ·have e':i<vs.length:=by rw [f.len];exact e
   obtain ⟨c0,c1⟩:=f.got i e e'
   rw [List.getElem_append_left e,List.getElem_append_left e']
   refine ⟨fun j u hu=>(s2 _ (by have:=(List.getElem?_eq_some_iff.1 hu).1;rw [Kn.len] at this;omega)).trans (c0 j u hu),(s2 _ (by omega)).trans c1⟩
  ·have ei:i=ks.length:=by rw [List.length_append] at h;simp at h;omega
   have ev:i=vs.length:=by rw [f.len];exact ei
   have x1:(ks ++ [c])[i]=c:=by subst ei;simp
   have x2:(vs ++ [v])[i]=v:=by rw [List.getElem_append_right (by omega)];simp [ev]
   rw [x1,x2,ei]
   exact ⟨fun j u hu=>s1 j u (by rw [List.getElem?_append_left (List.getElem?_eq_some_iff.1 hu).1];exact hu),s1 13 v rfl⟩
 ·by_cases e:i<ks.length
  ·have e':i<vs.length:=by rw [f.len];exact e
   rw [List.getElem_append_left e,List.getElem_append_left e']
   exact same ((f.own i e e').wider (Nat.le_refl _) (by omega)) (f.far i e')
  ·have ei:i=ks.length:=by rw [List.length_append] at h;simp at h;omega
   have ev:i=vs.length:=by rw [f.len];exact ei
   have x1:(ks ++ [c])[i]=c:=by subst ei;simp
   have x2:(vs ++ [v])[i]=v:=by rw [List.getElem_append_right (by omega)];simp [ev]
   rw [x1,x2]
   exact same hv hvg
 ·by_cases e:i<vs.length
  ·rw [List.getElem_append_left e]
   exact f.far i e
  ·have ev:i=vs.length:=by rw [List.length_append] at h';simp at h';omega
   have x2:(vs ++ [v])[i]=v:=by rw [List.getElem_append_right (by omega)];simp [ev]
   rw [x2]
   exact hvg
 ·have old:∀i (h:i<vs.length) b,elB vs[i]=some b→b<hi:=fun i h b e=>((f.own i (by rw [←f.len];exact h) h).el e).2.1
  by_cases e1:i<vs.length
  ·rw [List.getElem_append_left e1] at hb
   by_cases e2:j<vs.length
   ·rw [List.getElem_append_left e2]
    exact f.apart i j e1 e2 hne b hb
   ·have ev:j=vs.length:=by rw [List.length_append] at h';simp at h';omega
    have x2:(vs ++ [v])[j]=v:=by rw [List.getElem_append_right (by omega)];simp [ev]
    rw [x2]
    intro e
    have:=hn b e
    have:=old i e1 b hb
    omega
  ·have ev:i=vs.length:=by rw [List.length_append] at h;simp at h;omega
   have x1:(vs ++ [v])[i]=v:=by rw [List.getElem_append_right (by omega)];simp [ev]
   rw [x1] at hb
   by_cases e2:j<vs.length
   ·rw [List.getElem_append_left e2]
    intro e
    have:=hn b hb
    have:=old j e2 b e
    omega
   ·have ev2:j=vs.length:=by rw [List.length_append] at h';simp at h';omega
    omega
structure Lay (u:World) (b:Nat) (vs:List Value):Prop where
 cell:∀j v,vs[j]?=some v→u.cell? ⟨b,j,none⟩=some v
 free:∀o:Nat,u.frozen? ⟨b,o,none⟩=false
 lt:b<u.heap.size
theorem Lay.next {u u':World} {b:Nat} {vs:List Value} (h:Lay u b vs) (hb:Below u.heap.size u u'):Lay u' b vs :=
 ⟨fun j v hv=>(hb.cell (by exact h.lt)).trans (h.cell j v hv),fun o=>(hb.frozen (by exact h.lt)).trans (h.free o),Nat.lt_of_lt_of_le h.lt hb.size⟩
theorem Lay.only {u u':World} {b g:Nat} {vs:List Value} (h:Lay u b vs) (o:Only g u u') (hne:b≠g):Lay u' b vs :=
 ⟨fun j v hv=>(o.cell (by exact h.lt) (by exact hne)).trans (h.cell j v hv),fun k=>(o.frozen (by exact h.lt) (by exact hne)).trans (h.free k),Nat.lt_of_lt_of_le h.lt o.size⟩
theorem Lay.put {u:World} {b:Nat} {p q r:List Value} (h:Lay u b (p ++ (q ++ r))) (us:List Value) (e:us.length=q.length):Lay (u.setCells b p.length us) b (p ++ (us ++ r)):=by
 have hc:∀j,j<us.length→(u.cell? ⟨b,p.length+j,none⟩).isSome=true:=fun j hj=>by
  rw [h.cell (p.length+j) q[j] (by rw [List.getElem?_append_right (by omega),List.getElem?_append_left (by omega)];simp)]
  rfl
 obtain ⟨s1,s2,s3,s4⟩:=zub us hc
 refine ⟨fun j v hv=>?_,fun o=>(s3 _).trans (h.free o),Nat.lt_of_lt_of_le h.lt s4.size⟩
 by_cases h1:j<p.length
 ·refine (s2 j (.inl h1)).trans (h.cell j v ?_)
  rw [List.getElem?_append_left h1] at hv ⊢
  exact hv
 ·rw [List.getElem?_append_right (by omega)] at hv
  by_cases h2:j-p.length<us.length
  ·rw [List.getElem?_append_left h2] at hv
   have:=s1 _ v hv
   rwa [show p.length+(j-p.length)=j by omega] at this
  ·rw [List.getElem?_append_right (by omega)] at hv
   refine (s2 j (.inr (by omega))).trans (h.cell j v ?_)
   rw [List.getElem?_append_right (by omega),List.getElem?_append_right (by omega),←e]
   exact hv
theorem zbs {u:World} {b:Nat} (cs:List Value) (t:TypeId) (e:b=u.heap.size):Lay (u.alloc (.cells cs.toArray t)) b cs:=by
 subst e
 refine ⟨fun j v hv=>?_,fun o=>by go_simp,by simp⟩
 have hh:(u.alloc (.cells cs.toArray t)).heap[u.heap.size]?=some (.cells cs.toArray t):=by show (u.heap.push _)[u.heap.size]?=_;exact Array.getElem?_push_size
 unfold World.cell?
 rw [hh]
 show (if (none:Option _).isSome then none else cs.toArray[j]?)=some v
 rw [if_neg (by simp)]
 simpa using hv
theorem Lay.alloc {u:World} {b:Nat} {vs:List Value} (h:Lay u b vs) (cs:Array Value) (t:TypeId):Lay (u.alloc (.cells cs t)) b vs:=h.next (by go_grown)
theorem Lay.c3 {u:World} {b:Nat} {a0 a1 a2:Value} (h:Lay u b [a0,a1,a2]):u.cell? ⟨b,0,none⟩=some a0∧u.cell? ⟨b,1,none⟩=some a1∧u.cell? ⟨b,2,none⟩=some a2:=⟨h.cell 0 _ rfl,h.cell 1 _ rfl,h.cell 2 _ rfl⟩
theorem Lay.c7 {u:World} {b:Nat} {a0 a1 a2 a3 a4 a5 a6:Value} (h:Lay u b [a0,a1,a2,a3,a4,a5,a6]):u.cell? ⟨b,0,none⟩=some a0∧u.cell? ⟨b,1,none⟩=some a1∧u.cell? ⟨b,2,none⟩=some a2∧u.cell? ⟨b,3,none⟩=some a3∧u.cell? ⟨b,4,none⟩=some a4∧u.cell? ⟨b,5,none⟩=some a5∧u.cell? ⟨b,6,none⟩=some a6:=⟨h.cell 0 _ rfl,h.cell 1 _ rfl,h.cell 2 _ rfl,h.cell 3 _ rfl,h.cell 4 _ rfl,h.cell 5 _ rfl,h.cell 6 _ rfl⟩
theorem Lay.c10 {u:World} {b:Nat} {a0 a1 a2 a3 a4 a5 a6 a7 a8 a9:Value} (h:Lay u b [a0,a1,a2,a3,a4,a5,a6,a7,a8,a9]):u.cell? ⟨b,0,none⟩=some a0∧u.cell? ⟨b,1,none⟩=some a1∧u.cell? ⟨b,2,none⟩=some a2∧u.cell? ⟨b,3,none⟩=some a3∧u.cell? ⟨b,4,none⟩=some a4∧u.cell? ⟨b,5,none⟩=some a5∧u.cell? ⟨b,6,none⟩=some a6∧u.cell? ⟨b,7,none⟩=some a7∧u.cell? ⟨b,8,none⟩=some a8∧u.cell? ⟨b,9,none⟩=some a9:=⟨h.cell 0 _ rfl,h.cell 1 _ rfl,h.cell 2 _ rfl,h.cell 3 _ rfl,h.cell 4 _ rfl,h.cell 5 _ rfl,h.cell 6 _ rfl,h.cell 7 _ rfl,h.cell 8 _ rfl,h.cell 9 _ rfl⟩
theorem Lay.c14 {u:World} {b:Nat} {a0 a1 a2 a3 a4 a5 a6 a7 a8 a9 a10 a11 a12 a13:Value} (h:Lay u b [a0,a1,a2,a3,a4,a5,a6,a7,a8,a9,a10,a11,a12,a13]):u.cell? ⟨b,0,none⟩=some a0∧u.cell? ⟨b,1,none⟩=some a1∧u.cell? ⟨b,2,none⟩=some a2∧u.cell? ⟨b,3,none⟩=some a3∧u.cell? ⟨b,4,none⟩=some a4∧u.cell? ⟨b,5,none⟩=some a5∧u.cell? ⟨b,6,none⟩=some a6∧u.cell? ⟨b,7,none⟩=some a7∧u.cell? ⟨b,8,none⟩=some a8∧u.cell? ⟨b,9,none⟩=some a9∧u.cell? ⟨b,10,none⟩=some a10∧u.cell? ⟨b,11,none⟩=some a11∧u.cell? ⟨b,12,none⟩=some a12∧u.cell? ⟨b,13,none⟩=some a13:=⟨h.cell 0 _ rfl,h.cell 1 _ rfl,h.cell 2 _ rfl,h.cell 3 _ rfl,h.cell 4 _ rfl,h.cell 5 _ rfl,h.cell 6 _ rfl,h.cell 7 _ rfl,h.cell 8 _ rfl,h.cell 9 _ rfl,h.cell 10 _ rfl,h.cell 11 _ rfl,h.cell 12 _ rfl,h.cell 13 _ rfl⟩
theorem zjl {u u':World} {b:Nat} {vs:List Value} (h:Hid (Lay u b vs)) (hb:Below u.heap.size u u'):Hid (Lay u' b vs):=h.out.next hb
theorem pre2 (w:World) (t:TypeId) (xs zs:List Value):∃v,v=(w.alloc (.cells xs.toArray t)).alloc (.cells zs.toArray t)∧Below w.heap.size w v∧Lay v w.heap.size xs∧Lay v (w.heap.size+1) zs :=
 ⟨_,rfl,by go_grown,(zbs xs _ rfl).alloc _ _,zbs zs _ (by simp)⟩
theorem st7 {z:World} {b:Nat} {o0 o1 o2 o3 o4 o5 o6:Value} (L:Lay z b [o0,o1,o2,o3,o4,o5,o6]) (c0 c1 c2 c3 c4 c5 c6:Value):∃u,(((((((z.setCell ⟨b,0,none⟩ c0).setCell ⟨b,1,none⟩ c1).setCell ⟨b,2,none⟩ c2).setCell ⟨b,3,none⟩ c3).setCell ⟨b,4,none⟩ c4).setCell ⟨b,5,none⟩ c5).setCell ⟨b,6,none⟩ c6)=u∧Only b z u∧Lay u b [c0,c1,c2,c3,c4,c5,c6] :=
 ⟨z.setCells b 0 [c0,c1,c2,c3,c4,c5,c6],rfl,zba _ _ _,L.put (p:=[]) (q:=[o0,o1,o2,o3,o4,o5,o6]) (r:=[]) [c0,c1,c2,c3,c4,c5,c6] rfl⟩
theorem ze8 (u:World) (t:TypeId) (xs:List Value):∃x,x=u.alloc (.cells xs.toArray t)∧Lay x u.heap.size xs∧Below u.heap.size u x:=⟨_,rfl,zbs xs _ rfl,newB u _⟩
theorem ziw (w:World) (t:TypeId) (xs:List Value):∃v,v=(w.alloc (.cells xs.toArray t)).alloc (.cells [.int .i64 0,.slice none 0 0,.slice none 0 0,.slice none 0 0,.slice none 0 0,.slice none 0 0,.int .i64 0].toArray t)∧Below w.heap.size w v∧Lay v w.heap.size xs∧Lay v (w.heap.size+1) [.int .i64 0,.slice none 0 0,.slice none 0 0,.slice none 0 0,.slice none 0 0,.slice none 0 0,.int .i64 0]:=pre2 w t xs _
theorem zjm {w:World} {a b:Option Addr} (cap cap':Nat) {xs ys:List Int} (ha:ISmp w.heap.size w a xs) (hb:ISmp w.heap.size w b ys) (hn:xs.length≤4611686018427387904) :
 Calls Tryz.prog 20 #[.slice a xs.length cap,.slice b ys.length cap'] w fun e w'=>e=.returned (.bool (decide (xs=ys)))∧Below w.heap.size w w':=by
 by_cases hl:xs.length=ys.length
 ·rw [hl]
  have HL:Hid (xs.length=ys.length):=hl
  clear hl
  go_enter Tryz.func20,Tryz.ntmps20
  go_wp2
  go_loopw [5] (fun i wr=>∃k:Nat,i=.int .i64 k∧k≤ys.length∧xs.take k=ys.take k∧Below w.heap.size w wr) (fun i _=>ys.length-(intOf i).toNat)
  case atStart=>exact ⟨0,rfl,by omega,by simp,by go_grown⟩
  case round =>
   obtain ⟨k,rfl,hk,ht,hbw⟩:=hrel
   by_cases hlt2:k<ys.length
   ·have hlt:k<xs.length:=by have:=HL.out;omega
    obtain ⟨b1,o1,rfl,hb1,c0⟩:=ha.at hbw k hlt
    obtain ⟨b2,o2,rfl,hb2,d0⟩:=hb.at hbw k hlt2
    have hlt':(k:Int)<(ys.length:Int):=by omega
    have hnn:=hn
    have hly:=HL.out
    rw [hly] at hnn
    clear hly
    have hk0:(0:Int)≤(k:Int):=by omega
    obtain ⟨p,hp⟩:∃p,xs[k]=p:=⟨_,rfl⟩
    obtain ⟨q,hq⟩:∃q,ys[k]=q:=⟨_,rfl⟩
    rw [hp] at c0
    rw [hq] at d0
    have HP:Hid (xs[k]=p):=hp
    have HQ:Hid (ys[k]=q):=hq
    clear hp hq
    by_cases hpq:p=q
    ·subst hpq
     have HT:Hid (xs.take (k+1)=ys.take (k+1)):=by
      show xs.take (k+1)=ys.take (k+1)
      rw [List.take_succ_eq_append_getElem hlt,List.take_succ_eq_append_getElem hlt2,ht,HP.out,HQ.out]
     go_wp2
     go_quiet (fail)
     go_wp2
     go_roundw
     case rel=>exact ⟨k+1,by go_num,by omega,HT.out,zam hbw _⟩
     case measure=>simp [intOf]<;>omega
    ·have hpq':(p == q)=false:=by simp [hpq]
     go_wp2
     go_quiet (fail)
     go_wp2
     go_ret
     exact ⟨ret_b (decide_eq_false (fun e=>hpq (by rw [←HP.out,←HQ.out];subst e;rfl))).symm,zam hbw _⟩
   ·have e:k=ys.length:=by omega
    subst e
    have hxy:xs=ys:=by
     rw [List.take_length,←HL.out,List.take_length] at ht;exact ht
    go_wp2
    go_ret
    exact ⟨ret_b (decide_eq_true hxy).symm,hbw⟩
 ·have hlb:((xs.length:Int) == (ys.length:Int))=false:=by simp;omega
  rw [decide_eq_false (fun e=>hl (by rw [e]))]
  go_enter Tryz.func20,Tryz.ntmps20
  go_wp2
  go_ret
  exact ⟨rfl,by go_grown⟩
def inB (lo x hi:Int):Bool:=decide (lo≤x) && decide (x≤hi)
def sg (n:Int):Bool:=inB 1 n 1500
def zj2 (xs:List Int):Bool:=xs.all sg
theorem sg_bad {xs:List Int} {k:Nat} (h:k<xs.length) (hs:sg xs[k]=false):zj2 xs=false:=by
 unfold zj2
 rw [List.all_eq_false]
 exact ⟨xs[k],List.getElem_mem h,by rw [hs];simp⟩
theorem sg_all {xs:List Int} (h:∀k (hk:k<xs.length),sg xs[k]=true):zj2 xs=true:=by
 unfold zj2
 rw [List.all_eq_true]
 intro x hx
 obtain ⟨k,hk,rfl⟩:=List.mem_iff_getElem.1 hx
 exact h k hk
structure FlowOk (f:F8):Prop where
 q0:1500≤f.1
 q1:f.1≤1000000000
 d0:0≤f.2.1
 d1:f.2.1≤f.1+1500
 len:f.2.2.length≤100
 none:f.2.2.length=0→f.2.1=0
 seg:zj2 f.2.2=true
structure TurnsOk (fs:List F8) (at':Int) (fresh:Bool):Prop where
 l0:1≤fs.length
 l1:fs.length≤30
 a0:0≤at'
 a1:at'<fs.length
 flow:∀k (h:k<fs.length),FlowOk fs[k]
 less:∀k (h:k<fs.length),((k:Int)≠at'∨fresh=true)→fs[k].2.1<1500
end Go.Proofs.YthiojkjcmhojoaaGreat
