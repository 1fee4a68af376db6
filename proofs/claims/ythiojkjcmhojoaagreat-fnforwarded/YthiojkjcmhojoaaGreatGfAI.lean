import Derived.Test.YthiojkjcmhojoaaGreatGfAG
import Derived.Deep.DeepCutAuto
namespace Go.Proofs.YthiojkjcmhojoaaGreat
open Go.ChangeShapes Go.WideShapes Go.ChangeAt Go.RowKit
set_option maxRecDepth 100000
set_option linter.unusedVariables false
set_option linter.unusedSimpArgs false
def z0y (fs:List F8):Nat→Nat
 | 0=>0
 | k+1=>z0y fs k+(match fs[k]? with|some f=>f.2.2.length|none=>0)
theorem zv5 {fs:List F8} {k:Nat} (h:k<fs.length):z0y fs (k+1)=z0y fs k+fs[k].2.2.length:=by
 show z0y fs k+(match fs[k]? with|some f=>f.2.2.length|none=>0)=_
 rw [List.getElem?_eq_getElem h]
theorem zep:(Tryz.prog.info? 2).map (fun i=>(i.zero,i.size,i.bytes))=some (some (.int .i64 0),1,8):=by kernel_rfl
theorem zq1 {w:World} {g:Nat} {a b c:Value} (h0:w.cell? ⟨g,0,none⟩=some a) (h1:w.cell? ⟨g,1,none⟩=some b) (h2:w.cell? ⟨g,2,none⟩=some c):∀j v,[a,b,c][j]?=some v→w.cell? ⟨g,j,none⟩=some v:=by
 intro j v hv
 match j,hv with
 | 0,hv=>obtain rfl:a=v:=by simpa using hv
         exact h0
 | 1,hv=>obtain rfl:b=v:=by simpa using hv
         exact h1
 | 2,hv=>obtain rfl:c=v:=by simpa using hv
         exact h2
theorem zv6 {w:World} {g:Nat} (a b c:Value) {z0 z1 z2:Value} (h0:w.cell? ⟨g,0,none⟩=some z0) (h1:w.cell? ⟨g,1,none⟩=some z1) (h2:w.cell? ⟨g,2,none⟩=some z2) :
 ∀j v,[a,b,c][j]?=some v→(((w.setCell ⟨g,0,none⟩ a).setCell ⟨g,1,none⟩ b).setCell ⟨g,2,none⟩ c).cell? ⟨g,j,none⟩=some v:=by
 have h:=zo8 (o:=0) a b c h0 h1 h2
 exact zq1 h.1 h.2.1 h.2.2
theorem IFill.far {w:World} {g n k:Nat} {xs:List Int} (f:IFill w g n xs k) {p:Addr} (v:Value) (h:p.block≠g):IFill (w.setCell p v) g n xs k where
 any:=fun j hj=>⟨by obtain ⟨z,hz⟩:=(f.any j hj).1;exact ⟨z,(zal (by exact h)).trans hz⟩,by simpa using (f.any j hj).2⟩
 got:=fun i hi hk=>(zal (by exact h)).trans (f.got i hi hk)
def sumK (ks:List Kn) (k:Nat):Nat:=((ks.take k).map fun c=>c.xs.length).sum
theorem zv7 {ks:List Kn} {k:Nat} (h:k<ks.length):sumK ks (k+1)=sumK ks k+ks[k].xs.length:=by
 unfold sumK
 rw [List.take_succ_eq_append_getElem h,List.map_append,List.sum_append]
 simp
theorem KO.turn {w w':World} {lo hi g n i:Nat} {vs:List Value} {ks:List Kn} (f:KO w lo hi g n vs ks) (hi':i<ks.length) (hv:i<vs.length) {c:Kn} {v:Value} (hs:w.heap.size≤w'.heap.size)
 (hb:∀b,lo≤b→b<hi→b≠g→elB vs[i]≠some b→w'.heap[b]?=w.heap[b]?) (hc:∀j,j<i*14∨i*14+13<j→w'.cell? ⟨g,j,none⟩=w.cell? ⟨g,j,none⟩) (hf:∀j,w'.frozen? ⟨g,j,none⟩=w.frozen? ⟨g,j,none⟩)
 (c0:∀j u,c.cs[j]?=some u→w'.cell? ⟨g,i*14+j,none⟩=some u) (c1:w'.cell? ⟨g,i*14+13,none⟩=some v) (ho:IO w' lo hi v c.xs) (he:∀b,elB v=some b→elB vs[i]=some b) :
 KO w' lo hi g n (vs.set i v) (ks.set i c):=by
 have le:=f.le
 refine ⟨f.g0,f.g1,Nat.le_trans f.top hs,by simp [f.len],by simp [f.le],fun j hj=>⟨?_,(hf j).trans (f.any j hj).2⟩,fun k hk hk'=>?_,fun k hk hk'=>?_,fun k hk=>?_,fun k j hk hj hne b e=>?_⟩
 ·by_cases e0:j<i*14∨i*14+13<j
  ·obtain ⟨z,hz⟩:=(f.any j hj).1
   exact ⟨z,(hc j e0).trans hz⟩
  ·by_cases e1:j=i*14+13
   ·subst e1;exact ⟨_,c1⟩
   ·obtain ⟨u,hu⟩:∃u,c.cs[j-i*14]?=some u:=⟨_,List.getElem?_eq_getElem (by rw [Kn.len];omega)⟩
    have:=c0 _ u hu
    rw [show i*14+(j-i*14)=j by omega] at this
    exact ⟨u,this⟩
 ·rw [List.getElem_set,List.getElem_set]
  by_cases e:i=k
  ·subst e
   rw [if_pos rfl,if_pos rfl]
   exact ⟨c0,c1⟩
  ·rw [if_neg e,if_neg e]
   obtain ⟨k0,k1⟩:=f.got k (by simpa using hk) (by simpa using hk')
   exact ⟨fun j u hu=>(hc _ (by have:=(List.getElem?_eq_some_iff.1 hu).1;rw [Kn.len] at this;omega)).trans (k0 j u hu),(hc _ (by omega)).trans k1⟩
 ·rw [List.getElem_set,List.getElem_set]
  by_cases e:i=k
  ·subst e
   rw [if_pos rfl,if_pos rfl]
   exact ho
  ·rw [if_neg e,if_neg e]
   have kv:k<vs.length:=by simpa using hk'
   have o:=f.own k (by simpa using hk) kv
   exact o.same hs (fun b eb=>hb b (o.el eb).1 (o.el eb).2.1 (fun e'=>f.far k kv (by rw [eb,e'])) (fun e'=>f.apart i k hv kv e b e' eb))
 ·rw [List.getElem_set]
  by_cases e:i=k
  ·rw [if_pos e]
   intro e'
   exact f.far i hv (he g e')
  ·rw [if_neg e]
   exact f.far k (by simpa using hk)
 ·rw [List.getElem_set] at e ⊢
  by_cases e1:i=k
  ·subst e1
   rw [if_pos rfl] at e
   rw [if_neg hne]
   exact f.apart i j hv (by simpa using hj) hne b (he b e)
  ·rw [if_neg e1] at e
   by_cases e2:i=j
   ·rw [if_pos e2]
    intro e'
    exact f.apart k i (by simpa using hk) hv (by omega) b e (he b e')
   ·rw [if_neg e2]
    exact f.apart k j (by simpa using hk) (by simpa using hj) hne b e
end Go.Proofs.YthiojkjcmhojoaaGreat
