/- Part of the proof of laws.FnMean: Put, PutWalk, Merge, Delete, Copy, ZNeg, AddSpec, ZAdd, ZFacts, ZPos, PosFacts. -/
import Derived.Test.YtmjaepdplbgohaaGreatDoorPkB
import Derived.Maps.AppendAt
import Derived.Deep.RegionLaw
import Derived.Deep.DrawnRows
import Derived.Deep.RegionHeld
import Derived.Laws.IdiomCopy
set_option maxRecDepth 100000
set_option maxHeartbeats 16000000
set_option linter.unusedVariables false
set_option linter.unusedSimpArgs false
namespace Go.Proofs.YtmjaepdplbgohaaGreatDoor
open Go.RowKit
abbrev Rw:=Value × It
def prs (l:List Rw):List (Value × Int):=l.map fun x=>(x.1,x.2.2)
def its (l:List Rw):List It:=l.map (·.2)
def z2W (l:List Rw):Prop:=l.Pairwise fun a b=> ∀ k,a.1.ownBlock=some k->b.1.ownBlock≠some k
theorem z1H (l:List Rw):(prs l).length=l.length:=by simp [prs]
theorem q1E (l:List Rw):(its l).length=l.length:=by simp [its]
theorem z2G (l m:List Rw):prs (l++m)=prs l++prs m:=by simp [prs]
theorem x1V (l m:List Rw):its (l++m)=its l++its m:=by simp [its]
theorem z4H (l:List Rw) (k:Nat):prs (l.take k)=(prs l).take k:=by simp [prs]
theorem prs_drop (l:List Rw) (k:Nat):prs (l.drop k)=(prs l).drop k:=by simp [prs]
theorem z4T (l:List Rw) (k:Nat):its (l.take k)=(its l).take k:=by simp [its]
theorem z4U (l:List Rw) (k:Nat):its (l.drop k)=(its l).drop k:=by simp [its]
theorem z1V.opened {w:World} {lo hi:Nat} {v:Value} {zs:List It} (h:z1V w lo hi v zs):∃ l:List Rw,zs=its l/\z1P w lo hi v (prs l)/\(∀ x∈l,Own w lo hi x.1 x.2.1)/\z2W l:=by
 obtain ⟨ps,he,hs,hr,ha⟩:=h;have hl:=x1X he;have hL:(List.zipWith (fun (p:Value × Int) (z:It)=>((p.1,z):Rw)) ps zs).length=ps.length:=by simp; omega
 have hg:∀ j (hj:j<ps.length),(List.zipWith (fun (p:Value × Int) (z:It)=>((p.1,z):Rw)) ps zs)[j]'(by omega)=((ps.getD j (vn,0)).1,zs.getD j ([],0)):=fun j hj=>by
  have hz:j<zs.length:=by omega
  simp [List.getD,hj,hz]
 have e1:its (List.zipWith (fun (p:Value × Int) (z:It)=>((p.1,z):Rw)) ps zs)=zs:=by
  apply List.ext_getElem
  ·
   simp [its]; omega
  ·
   intro j h1 h2;simp [its]
 have e2:prs (List.zipWith (fun (p:Value × Int) (z:It)=>((p.1,z):Rw)) ps zs)=ps:=by
  apply List.ext_getElem
  ·
   simp [prs]; omega
  ·
   intro j h1 h2;have hz:j<zs.length:=by omega
   have:=j2A he j;simp [List.getD,h2,hz] at this;simp [prs,<-this]
 refine ⟨_,e1.symm,by rw [e2]; exact hs,fun x hx=> ?_,?_⟩
 ·
  obtain ⟨j,hj,rfl⟩:=List.getElem_of_mem hx;rw [hL] at hj;rw [hg j hj];exact hr j hj
 ·
  unfold z2W;rw [List.pairwise_iff_getElem];intro i j hi' hj' hij k hk;rw [hL] at hi' hj';rw [hg i hi'] at hk;rw [hg j hj'];exact ha i j k hij hj' hk
theorem z1V.closed {w:World} {lo hi:Nat} {v:Value} {l:List Rw} (hs:z1P w lo hi v (prs l)) (hr:∀ x∈l,Own w lo hi x.1 x.2.1) (ha:z2W l):z1V w lo hi v (its l):=by
 have hg:∀ j,j<l.length->∃ h:j<l.length,(prs l).getD j (vn,0)=(l[j].1,l[j].2.2)/\(its l).getD j ([],0)=l[j].2:=fun j hj=>⟨hj,by simp [prs,List.getD,hj],by simp [its,List.getD,hj]⟩;refine ⟨prs l,by simp [prs,its],hs,fun j hj=> ?_,fun i j k hij hj hk=> ?_⟩
 ·
  obtain ⟨h,e1,e2⟩:=hg j (by rwa [z1H] at hj);rw [e1,e2];exact hr _ (List.getElem_mem h)
 ·
  obtain ⟨h,e1,_⟩:=hg j (by rwa [z1H] at hj);obtain ⟨h',e1',_⟩:=hg i (by omega);rw [e1'] at hk;rw [e1];exact (List.pairwise_iff_getElem.1 ha) i j h' h hij k hk
theorem z2W.insert {l:List Rw} (ha:z2W l) (k:Nat) {x:Rw} (hx:∀ y∈l,∀ b,y.1.ownBlock=some b->x.1.ownBlock≠some b):z2W (l.take k++x :: l.drop k):=by
 unfold z2W at *;have h0:=ha;rw [<-List.take_append_drop k l,List.pairwise_append] at h0;obtain ⟨h1,h2,h3⟩:=h0;rw [List.pairwise_append];refine ⟨h1,List.pairwise_cons.2 ⟨fun y hy b hb hb'=>hx y (List.mem_of_mem_drop hy) b hb' hb,h2⟩,fun y hy z hz b hb=> ?_⟩;rcases List.mem_cons.1 hz with rfl | hz
 ·
  exact hx y (List.mem_of_mem_take hy) b hb
 ·
  exact h3 y hy z hz b hb
theorem z2W.remove {l:List Rw} (ha:z2W l) (k:Nat):z2W (l.take k++l.drop (k+1)):=by
 unfold z2W at *;refine ha.sublist ?_;conv=>rhs; rw [<-List.take_append_drop k l]
 exact (List.Sublist.refl _).append (List.drop_sublist_drop_left l (by omega))
theorem cells2_take:∀ (ps:List (Value × Int)) (k:Nat),z1Z (ps.take k)=(z1Z ps).take (k*2)
 | [],k=>by simp [z1Z]
 | p :: ps,0=>by simp [z1Z]
 | p :: ps,k+1=>by rw [List.take_succ_cons,j1M,j1M,cells2_take ps k,show (k+1)*2=k*2+1+1 by omega,List.take_succ_cons,List.take_succ_cons]
theorem z1P.taken {w:World} {lo hi:Nat} {g n cap:Nat} {ps:List (Value × Int)} (h:z1P w lo hi (.slice (some ⟨g,0,none⟩) n cap) ps) {k:Nat} (hk:k<=ps.length):z1P w lo hi (.slice (some ⟨g,0,none⟩) k cap) (ps.take k):=by
 obtain ⟨⟨h1,h2⟩,h3,h4,h5⟩:=h;have hl:(ps.take k).length=k:=by rw [List.length_take]; omega
 have hc:=cells2_take ps k;rcases h2 with ⟨e,_⟩ | ⟨g',cap',cur,e,hb,hg,hnc,hcm,hcs,htake⟩
 ·
  simp at e
 ·
  simp at e;obtain ⟨rfl,rfl,rfl⟩:=e;refine ⟨⟨by rw [j1D,hl],.inr ⟨g,cap,cur,by rw [hl],hb,hg,by rw [hl]; omega,hcm,hcs,?_⟩⟩,h3,by rw [hl]; omega,h5⟩;rw [hl,hc,<-htake,List.take_take,Nat.min_eq_left (by omega)]
theorem z1Y.dropped {w:World} {g off n cap:Nat} {ps:List (Value × Int)} (h:z1Y w (.slice (some ⟨g,off,none⟩) n cap) ps) {k:Nat} (hk:k<=ps.length) (c:Nat):z1Y w (.slice (some ⟨g,off+k*2,none⟩) (n - k) c) (ps.drop k):=by
 obtain ⟨h1,h2,a,cap',e,_,hc⟩:=h;simp at e;obtain ⟨rfl,rfl,rfl⟩:=e;have hl:(ps.drop k).length=ps.length - k:=by simp
 refine ⟨by omega,fun p hp=>h2 p (List.mem_of_mem_drop hp),_,c,by rw [hl],fun h=>by simp at h,fun hne=> ?_⟩;obtain ⟨b,off',e,hb,hcell⟩:=hc (fun e=>hne (by simp [e]));simp at e;obtain ⟨rfl,rfl⟩:=e;refine ⟨g,off+k*2,rfl,hb,fun j hj=> ?_⟩;rw [hl] at hj;have e1:(ps.drop k).getD j (vn,0)=ps.getD (k+j) (vn,0):=by simp [List.getD]
 have:=hcell (k+j) (by omega);rw [e1,show off+k*2+j*2=off+(k+j)*2 by omega];exact this
theorem z1Y.kept {w w':World} {g off n cap:Nat} {ps:List (Value × Int)} (h:z1Y w (.slice (some ⟨g,off,none⟩) n cap) ps) {row:Option Nat} (hg:w.grownBy w' row) (hne:row≠some g):z1Y w' (.slice (some ⟨g,off,none⟩) n cap) ps:=by
 obtain ⟨h1,h2,a,cap',e,h4,hc⟩:=h;refine ⟨h1,h2,a,cap',e,h4,fun hn=> ?_⟩;obtain ⟨b,off',e',hb,hcell⟩:=hc hn;have eb:b=g:=by rw [e'] at e; simp at e; exact e.1.1.symm
 refine ⟨b,off',e',Nat.lt_of_lt_of_le hb hg.size,fun j hj=> ?_⟩;obtain ⟨c1,c2⟩:=hcell j hj;exact ⟨hg.cell c1 (by simp only [eb]; exact fun e=>hne e.symm),hg.cell c2 (by simp only [eb]; exact fun e=>hne e.symm)⟩
theorem z1Y.news {w:World} {ad:Addr} {m c:Nat} {qs:List (Value × Int)} (h:z1Y w (.slice (some ad) m c) qs):qs.length=m/\(∀ j u,(z1Z qs)[j]? = some u->w.cell? (ad.add j)=some u)/\∀ p∈qs,∃ a n c,p.1=Value.slice a n c:=by
 obtain ⟨hl,hsl,a,cap,e,hnone,hc⟩:=h;simp at e;obtain ⟨rfl,rfl,rfl⟩:=e;refine ⟨rfl,fun j u hu=> ?_,hsl⟩;by_cases h0:qs=[]
 ·
  subst h0; simp [z1Z] at hu
 ·
  obtain ⟨b,off,hh,_,hcell⟩:=hc h0;simp at hh;subst hh;have hj:j<qs.length*2:=by
   have:=(List.getElem?_eq_some_iff.1 hu).1;rwa [j1D] at this
  rw [Addr.add_lit];obtain ⟨q,r,hq,hr⟩:∃ q r,j=q*2+r/\r<2:=⟨j / 2,j % 2,by omega,by omega⟩;have hqn:q<qs.length:=by omega
  obtain ⟨h1,h2⟩:=hcell q hqn;rcases Nat.lt_succ_iff_lt_or_eq.1 hr with h | h
  ·
   obtain rfl:r=0:=by omega
   subst hq;rw [Nat.add_zero] at hu ⊢;rw [cells2_get0 _ _ hqn] at hu;rw [h1]; exact hu
  ·
   subst h hq;rw [cells2_get1 _ _ hqn] at hu;rw [<-Nat.add_assoc,h2]; exact hu
theorem q1L {P:Program} {ops:Array Oper} {o:Oper} {a:Act} {w:World} {K:Act->World->Prop} {Q:Exit->Act->World->Prop} {E:Prop}
  (hg:o.guard=none) (s x:Operand) (t:TypeId) (hop:o.op=Op.call { callee:=Callee.builtin Builtin.append,args:=#[s,x],argTypes:=#[t,t] })
  (base:Nat) (e:TypeId) (i:TypeInfo) (ht:P.underlying t=some (.slice e)) (hi:P.info? e=some i) (hz:i.zero=some (.agg #[.slice none 0 0,.int .i64 0]))
  (hsize:i.size=2) (hby:i.bytes=32)
  (v:Value) (ps:List (Value × Int)) (hs:a.eval s=v) (hown:w.ownsRow base e 2 v ps.length (z1Z ps))
  (ad:Addr) (m c:Nat) (qs:List (Value × Int)) (hx:a.eval x = .slice (some ad) m c) (hp:z1Y w (.slice (some ad) m c) qs)
  (hbytes:(ps.length+qs.length)*32<=140737488355328) (hbase:base<=w.heap.size)
  (hK:∀ v' w',w'.ownsRow base e 2 v' (ps++qs).length (z1Z (ps++qs))->w.grownBy w' v.ownBlock->(v'.ownBlock=v.ownBlock\/v'.ownBlock=some w.heap.size)->K (a.put o.dst v') w') :
  if Region.wanted o (yielded ops a.tmps)=true then Oper.wp P o a w K Q else E:=by
 obtain ⟨hm,hnews,hsl⟩:=hp.news;have hw:Region.wanted o (yielded ops a.tmps)=true:=by simp [Region.wanted,hg]
 rw [if_pos hw];subst hm;obtain ⟨v',w',hrun,r1,r2,_,r3⟩:=run_append_own_at (P:=P) w base t o.type e i (.agg #[.slice none 0 0,.int .i64 0]) 2 32 ht hi hz hsize hby rfl (by decide) v ps.length (z1Z ps) hown ad qs.length c (z1Z qs) (by rw [j1D]) hnews (v2B hsl) (by unfold maxLen; omega) hbytes hbase;unfold Oper.wp;simp [execOp,hop,resolve,invoke,builtin,hs,hx,hrun,Result.andThen];rw [<-z2E] at r1;exact hK v' w' (by rw [List.length_append]; exact r1) r2 r3
end Go.Proofs.YtmjaepdplbgohaaGreatDoor
namespace Go.Proofs.YtmjaepdplbgohaaGreatDoor
open Go.RowKit
attribute [local go_sem ↓] Go.wp_at_zero Go.wp_at_succ
theorem Only.of_below {lo hi:Nat} {w w':World} (h:Below w.heap.size w w'):Only lo hi w w':=⟨h.os,h.tape,h.output,h.size,fun k hk _=>h.block k hk⟩
theorem v5O {w w':World} {row:Option Nat} (h:w.drew.grownBy w' row):w.grownBy w' row:=⟨h.os,h.tape,h.output,h.size,h.block⟩
theorem Only.grown {lo hi:Nat} {w a b:World} {row:Option Nat} (h:Only lo hi w a) (k:a.grownBy b row) (hr:∀ i,row=some i->(lo<=i/\i<hi)\/w.heap.size<=i):Only lo hi w b:=
 ⟨k.os.trans h.os,k.tape.trans h.tape,k.output.trans h.output,Nat.le_trans h.size k.size,fun i hi' hk=>(k.block i (Nat.lt_of_lt_of_le hi' h.size) (fun e=>by have:=hr i e.symm; omega)).trans (h.block i hi' hk)⟩
theorem k4C {xs ys:List Int} (h:ordL xs ys = -1):j1A xs ys=true:=by unfold j1A; rw [h]; decide
theorem z4O {xs ys:List Int} (h:¬ ordL xs ys = -1):j1A xs ys=false:=by
 unfold j1A;rcases ordL_cases xs ys with c | c | c
 ·
  exact absurd c.1 h
 ·
  rw [c.1]; decide
 ·
  rw [c.1]; decide
theorem k5Y {xs ys:List Int} (h:xs=ys):q1Z xs ys=true:=by rw [j2B]; simp [h]
theorem q5B {xs ys:List Int} (h:¬ xs=ys):q1Z xs ys=false:=by rw [j2B]; simp [h]
theorem z1Y.cut {w:World} {g n cap:Nat} {ps:List (Value × Int)} (h:z1Y w (.slice (some ⟨g,0,none⟩) n cap) ps) {k:Nat} (hk:k<=ps.length) (hcap:n<=cap) :
  ∃ ad:Addr,(if cap=k then some (⟨g,0,none⟩:Addr) else some ⟨g,k*2,none⟩)=some ad/\z1Y w (.slice (some ad) (n - k) (cap - k)) (ps.drop k):=by
 have hn:n=ps.length:=by obtain ⟨_,_,a,c,e,_⟩:=h; simp at e; exact e.2.1
 by_cases hc:cap=k
 ·
  refine ⟨_,if_pos hc,?_⟩;have h0:ps.drop k=[]:=List.drop_eq_nil_of_le (by omega);have hnk:n - k=0:=by omega
  rw [h0,hnk];exact ⟨by simp,fun p hp=>by simp at hp,_,_,rfl,fun h=>by simp at h,fun h=>absurd rfl h⟩
 ·
  refine ⟨_,if_neg hc,?_⟩;have:=h.dropped hk (cap - k);rwa [Nat.zero_add] at this
theorem z1P.keep' {w w':World} {lo hi:Nat} {v:Value} {ps:List (Value × Int)} (h:z1P w lo hi v ps) (hb:Below w.heap.size w w'):z1P w' lo hi v ps:=h.keep (hb.mono h.2.2.2)
theorem j3D {w:World} {lo k n:Nat} {v:Value} {l:List Rw} {W:World} {lo' hi':Nat} (h:w.ownsRow lo 47 2 v ((prs l).drop k).length (z1Z ((prs l).drop k))) (hnn:v≠.slice none 0 0) (hdl:((prs l).drop k).length=n) (hlim:n<=140737488355328) (hr:∀ x∈l,Own W lo' hi' x.1 x.2.1) :
  ∃ g c,v = .slice (some ⟨g,0,none⟩) n c/\lo<=g/\z1Y w v ((prs l).drop k):=by
 have S:=v1C h (by omega);have hp:=S.pairs (fun p hp=>by obtain ⟨q,hq,rfl⟩:=List.mem_map.1 (List.mem_of_mem_drop hp); exact (hr q hq).ints.shape);rcases h.2 with ⟨e,_⟩ | ⟨g,c,cur,e,hb,_⟩
 ·
  exact absurd e hnn
 ·
  exact ⟨g,c,by rw [e,hdl],hb,hp⟩
theorem j4Q {w w':World} {lo:Nat} {g k cap:Nat} {ps:List (Value × Int)} (h:w.ownsRow lo 47 2 (.slice (some ⟨g,0,none⟩) k cap) ps.length (z1Z ps)) (hb:Below w.heap.size w w'):w'.ownsRow lo 47 2 (.slice (some ⟨g,0,none⟩) k cap) ps.length (z1Z ps):=by
 refine ⟨h.1,?_⟩;rcases h.2 with h2 | ⟨g',cap',cur,hv,hg,hh,r⟩
 ·
  exact .inl h2
 ·
  exact .inr ⟨g',cap',cur,hv,hg,(hb.block g' (Array.getElem?_eq_some_iff.1 hh).1).trans hh,r⟩
theorem j4L {w:World} {lo hi g n cap k:Nat} {zs:List It} (Z:z1V w lo hi (.slice (some ⟨g,0,none⟩) n cap) zs) (hn:n=zs.length) (hk:k<=n) (hcap:n<=cap) :
  ∃ (l:List Rw) (ad:Addr),Hid (zs=its l)/\Hid (z1P w lo hi (.slice (some ⟨g,0,none⟩) n cap) (prs l))/\Hid (∀ x∈l,Own w lo hi x.1 x.2.1)/\Hid (z2W l)/\Hid (l.length=n) ∧
   (if cap=k then some (⟨g,0,none⟩:Addr) else some ⟨g,k*2,none⟩)=some ad/\z1Y w (.slice (some ad) (n - k) (cap - k)) ((prs l).drop k):=by
 obtain ⟨l,HL,S,R,A⟩:=Z.opened;have hll:l.length=n:=by rw [<-q1E,<-HL,hn]
 obtain ⟨ad,hif,hpr⟩:=(S.pairs (fun p hp=>by obtain ⟨q,hq,rfl⟩:=List.mem_map.1 hp; exact (R q hq).ints.shape)).cut (k:=k) (by rw [z1H]; omega) hcap;exact ⟨l,ad,HL,S,R,A,hll,hif,hpr⟩
theorem z4F {w8 w9 w10 w11:World} {lo hi k:Nat} {l:List Rw} {v rv9 v10 v11:Value} {r:List Int} {y:Int} (S8:z1P w8 lo hi v (prs l)) (R8:∀ x∈l,Own w8 lo hi x.1 x.2.1) (A:z2W l)
  (hk:k<=l.length) (hv:∀ i,v.ownBlock=some i->lo<=i/\i<hi) (hlo:lo<=hi) (hlim:l.length<=1099511627775) (O9:Own w9 w8.drew.heap.size w9.heap.size rv9 r) (hb9:Below w8.drew.heap.size w8.drew w9)
  (hown10:w10.ownsRow lo 47 2 v10 ((prs l).take k++[(rv9,y)]).length (z1Z ((prs l).take k++[(rv9,y)]))) (hg10:(w9.alloc (.cells #[rv9,.int .i64 y] 47)).grownBy w10 v.ownBlock)
  (hat10:v10.ownBlock=v.ownBlock\/v10.ownBlock=some (w9.alloc (.cells #[rv9,.int .i64 y] 47)).heap.size)
  (hown11:w11.ownsRow lo 47 2 v11 (((prs l).take k++[(rv9,y)])++(prs l).drop k).length (z1Z (((prs l).take k++[(rv9,y)])++(prs l).drop k))) (hg11:w10.grownBy w11 v10.ownBlock) :
  z1V w11 lo w11.heap.size v11 (its (l.take k)++(r,y) :: its (l.drop k))/\Only lo hi w8 w11:=by
 have hbd:Below w8.heap.size w8 w8.drew:=Below.drew (Below.refl _ _);have hbA:Below w8.heap.size w8 (w9.alloc (.cells #[rv9,.int .i64 y] 47)):=z1D (z1D hbd hb9) (z1C _);have hhi:=S8.2.2.2;have SA:=S8.keep' hbA;have RA:∀ x∈l,Own (w9.alloc (.cells #[rv9,.int .i64 y] 47)) lo hi x.1 x.2.1:=fun x hx=>(R8 x hx).keep' hbA;have OA:Own (w9.alloc (.cells #[rv9,.int .i64 y] 47)) w8.heap.size w9.heap.size rv9 r:=O9.keep' (z1C _);have S10:z1P w10 lo w10.heap.size v10 _:=v1C hown10 (by rw [List.length_append,List.length_take,z1H]; simp; omega);have R10:∀ x∈l,Own w10 lo hi x.1 x.2.1:=fun x hx=>(RA x hx).keptB hg10 (j1G SA (RA x hx));have O10:=OA.keptB hg10 (j1G SA OA);have R11:∀ x∈l,Own w11 lo hi x.1 x.2.1:=fun x hx=>(R10 x hx).keptB hg11 (j1G S10 (R10 x hx));have O11:=O10.keptB hg11 (j1G S10 O10);have z1:=hbA.size;have z2:=hg10.size;have z3:=hg11.size;have z4:=hb9.size;have z5:w8.drew.heap.size=w8.heap.size:=rfl;have e1:its (l.take k)++(r,y) :: its (l.drop k)=its (l.take k++(rv9,(r,y)) :: l.drop k):=by simp [its]
 have e2:((prs l).take k++[(rv9,y)])++(prs l).drop k=prs (l.take k++(rv9,(r,y)) :: l.drop k):=by simp [prs]
 refine ⟨?_,((Only.of_below hbA).grown hg10 (fun i e=> .inl (hv i e))).grown hg11 (fun i e=> ?_)⟩
 ·
  rw [e1];refine z1V.closed ?_ (fun x hx=> ?_) (A.insert k (fun x hx b hb hb'=> ?_))
  ·
   rw [<-e2];refine v1C hown11 ?_;rw [e2,z1H];simp;omega
  ·
   rcases List.mem_append.1 hx with h | h
   ·
    exact (R11 x (List.mem_of_mem_take h)).wide (Nat.le_refl _) (by omega) (Nat.le_refl _)
   ·
    rcases List.mem_cons.1 h with rfl | h
    ·
     exact O11.wide (by omega) (by have:=O11.2.2.2; omega) (Nat.le_refl _)
    ·
     exact (R11 x (List.mem_of_mem_drop h)).wide (Nat.le_refl _) (by omega) (Nat.le_refl _)
  ·
   have h1:=(R8 x hx).2.1 b hb;have h2:=(O9.1.lt b hb').1;omega
 ·
  rcases hat10 with h | h
  ·
   rw [h] at e; exact .inl (hv i e)
  ·
   rw [h] at e;simp at e;simp at z1;omega
theorem x5Y (g n cap lo hi:Nat) (zs:List It) (rv:Value) (r:List Int) (y:Int) (w:World) (h:z1V w lo hi (.slice (some ⟨g,0,none⟩) n cap) zs) (hn:n=zs.length) (hlo:lo<=hi) (hg1:lo<=g) (hg2:g<hi) (hcap:n<=cap) (hcm:cap<=9223372036854775807)
  (hr:z1E w rv r) (hlim:n<=1099511627775) (hrl:r.length<=8796093022208) (hwz:∀ j,j<n->-4611686018427387904<=(zs.getD j ([],0)).2/\(zs.getD j ([],0)).2<=4611686018427387903) (hwy : -4611686018427387904<=y/\y<=4611686018427387903) :
  Calls Tryz.prog 98 #[.slice (some ⟨g,0,none⟩) n cap,rv,.int .i64 y] w fun e w'=> ∃ v',e = .returned v'/\z1V w' lo w'.heap.size v' (putZ zs r y)/\Only lo hi w w':=by
 obtain ⟨i0,hi0,hz0,hz1,hz2⟩:=info_parts infoItem;have HN:Hid (n=zs.length):=hn;have HZ:Hid (z1V w lo hi (.slice (some ⟨g,0,none⟩) n cap) zs):=h;have HR:Hid (z1E w rv r):=hr;obtain ⟨ra,rn,rc,rfl⟩:=hr.shape;clear hn h hr;go_enter Tryz.func98,Tryz.ntmps98;go_wp2;go_loopw [7] (fun i wr=> ∃ k:Nat,k<=n/\i = .int .i64 k/\Hid (∀ j,j<k->ordL (zs.getD j ([],0)).1 r = -1)/\Hid (Below w.heap.size w wr)) (fun i _=>n - (intOf i).toNat)
 case atStart=>exact ⟨0,Nat.zero_le _,rfl,fun j hj=>by omega,Below.refl _ _⟩
 case round=>
  obtain ⟨k,hk,rfl,HS,HW⟩:=hrel;have Zr:=HZ.out.keep' HW.out;have hrr:=HR.out.below HW.out;have cells:k<n->∃ xv,wr.cell? ⟨g,k*2,none⟩=some xv/\wr.cell? ⟨g,k*2+1,none⟩=some (.int .i64 (zs.getD k ([],0)).2)/\z1E wr xv (zs.getD k ([],0)).1:=fun hlt=>by
   obtain ⟨ps,he,hs,hro,_⟩:=Zr
   have hl:=x1X he
   have hkp:k<ps.length:=by rw [hl,<-HN.out]; exact hlt
   exact ⟨_,hs.cell0 hkp,by rw [hs.cell1 hkp,j2A he],(hro k hkp).ints⟩
  obtain ⟨x,HX⟩:∃ x,Hid (x=(zs.getD k ([],0)).1):=⟨_,rfl⟩;obtain ⟨yk,HY⟩:∃ y,Hid (y=(zs.getD k ([],0)).2):=⟨_,rfl⟩;rw [<-HX.out,<-HY.out] at cells;by_cases hcont:k<n/\ordL x r = -1
  ·
   obtain ⟨hlt,hless⟩:=hcont;obtain ⟨xv,hx,hy,hix⟩:=cells hlt;obtain ⟨xa,xn,xc,rfl⟩:=hix.shape;have hlessB:=k4C hless;have HL:Hid (ordL x r = -1):=hless;clear cells Zr hless hwz;go_wp2_with fail;refine (x1J hlessB hix hrr).mono ?_;rintro e w6 ⟨rfl,hd6⟩;have HK:Hid (Below w.heap.size w w6):=z1D HW.out hd6.below;clear hix hrr hd6 hx hy;go_wp2;go_roundw
   case rel=>exact ⟨k+1,by omega,by go_num,fun j hj=>by
    rcases Nat.lt_succ_iff_lt_or_eq.1 hj with h | h
    ·
     exact HS.out j h
    ·
     rw [h,<-HX.out]; exact HL.out,HK.out⟩
   case measure=>simp [intOf]; omega
  ·
   by_cases hsame:k<n/\x=r
   ·
    obtain ⟨hlt,hsm⟩:=hsame;have hnl:¬ ordL x r = -1:=fun e=>hcont ⟨hlt,e⟩;obtain ⟨xv,hx,hy,hix⟩:=cells hlt;obtain ⟨xa,xn,xc,rfl⟩:=hix.shape;have hlessB:=z4O hnl;have hsameB:=k5Y hsm;have HSM:Hid (x=r):=hsm;have hyb:=hwz k hlt;rw [<-HY.out] at hyb;clear cells Zr hnl hcont hsm hwz;go_wp2_with fail;refine (x1J hlessB hix hrr).mono ?_;rintro e w5 ⟨rfl,hd5⟩;have hx5:=(hd5.below.cell (p:=⟨g,k*2,none⟩) (v1S hx)).trans hx;have hix5:=hix.below hd5.below;have hrr5:=hrr.below hd5.below;have HK5:Hid (Below w.heap.size w w5):=z1D HW.out hd5.below;clear hix hrr hd5 hx hy;go_wp2_with fail;refine (v1D hsameB hix5 hrr5).mono ?_;rintro e w6 ⟨rfl,hd6⟩;have HK:Hid (Below w.heap.size w w6):=z1D HK5.out hd6.below;clear hix5 hrr5 hd6 hx5 HK5;have Z6:=HZ.out.keep' HK.out;have hkl:k<zs.length:=by rw [<-HN.out]; exact hlt
    have hy6:w6.cell? ⟨g,k*2+1,none⟩=some (.int .i64 yk):=by
     obtain ⟨ps,he,hs,hro,_⟩:=Z6;rw [hs.cell1 (by rw [x1X he]; exact hkl),j2A he,HY.out]
    have hf6:=Z6.frozenAt (k*2+1);obtain ⟨Z7,hg7⟩:=Z6.putW hkl (yk+y);have H7:Hid (z1V (w6.setCell ⟨g,k*2+1,none⟩ (.int .i64 (yk+y))) lo hi (.slice (some ⟨g,0,none⟩) n cap) (zs.set k (r,yk+y))):=by
     rw [<-HX.out,HSM.out] at Z7; exact Z7
    have O7:Hid (Only lo hi w (w6.setCell ⟨g,k*2+1,none⟩ (.int .i64 (yk+y)))):=(Only.of_below HK.out).trans (Only.of_grown hg7 (fun b hb=>by simp at hb; omega));have hc7:(w6.setCell ⟨g,k*2+1,none⟩ (.int .i64 (yk+y))).cell? ⟨g,k*2+1,none⟩=some (.int .i64 (yk+y)):=by
     obtain ⟨ps,he,hs,hro,_⟩:=H7.out;rw [hs.cell1 (by rw [x1X he]; simpa using hkl),j2A he,v1I hkl]
    clear Z6 Z7 hg7;obtain ⟨w7,hw7⟩:∃ w7,w7=w6.setCell ⟨g,k*2+1,none⟩ (.int .i64 (yk+y)):=⟨_,rfl⟩;by_cases hz:yk+y=0
    ·
     rw [hz] at H7 O7 hc7 hw7;have HW7:Hid (w7=w6.setCell ⟨g,k*2+1,none⟩ (.int .i64 0)):=hw7;clear hw7;go_wp2;have hw7:=HW7.out;clear HW7;rw [<-hw7] at H7 O7 hc7 ⊢;clear hw7 hy6 hf6;obtain ⟨l,HL,S7,R7,A7⟩:=H7.out.opened;have hll:l.length=n:=by rw [<-q1E,<-HL,List.length_set,HN.out]
     have hsp:=S7.taken (k:=k) (by rw [z1H]; omega);obtain ⟨m,hm⟩:∃ m,m=k+1:=⟨_,rfl⟩;have hwrap:IntKind.i64.wrap ((k:Int)+1)=(m:Int):=by rw [IntKind.wrap_i64]; omega
     obtain ⟨ad,hif,hpr⟩:=(S7.pairs (fun p hp=>by obtain ⟨q,hq,rfl⟩:=List.mem_map.1 hp; exact (R7 q hq).ints.shape)).cut (k:=m) (by rw [z1H]; omega) hcap;have hk1:m<=n:=by omega
     have hk2:k<=cap:=by omega
     have hk3:m<=cap:=by omega
     have hsl:((prs l).take k).length=k:=by rw [List.length_take,z1H]; omega
     have hdl:((prs l).drop m).length=n - m:=by rw [List.length_drop,z1H]; omega
     have hsz:lo<=w7.heap.size:=by have:=O7.out.size; have:=HZ.out.hi_le; omega
     have HM:Hid (m=k+1):=hm;clear hm;have hspo:w7.drew.ownsRow lo 47 2 (.slice (some ⟨g,0,none⟩) k cap) ((prs l).take k).length (z1Z ((prs l).take k)):=hsp.1;have hprd:z1Y w7.drew (.slice (some ad) (n - m) (cap - m)) ((prs l).drop m):=hpr;go_region_law (first
      | ((refine q1L rfl (.tmp 56) (.tmp 60) 35 rfl lo 47 i0 Tryz.underlying35 hi0 hz0 hz1 hz2 (.slice (some ⟨g,0,none⟩) k cap) ((prs l).take k) (by simp [Act.eval,Act.put]) hspo ad (n - m) (cap - m) ((prs l).drop m) (by simp [Act.eval,Act.put]) hprd (by rw [hsl,hdl]; omega) hsz ?_; intro v3 w3 hown3 hg3 hat3)))
     all_goals
      go_wp2
      go_ret
      have S3:z1P w3 lo w3.heap.size v3 (prs (l.take k++l.drop (k+1))):=by
       rw [z2G,z4H,prs_drop,<-HM.out];exact v1C hown3 (by rw [List.length_append,hsl,hdl]; omega)
      have hg3':w7.grownBy w3 (some g):=v5O hg3
      refine ⟨_,rfl,?_,O7.out.trans (Only.of_grown hg3' (fun b hb=>by simp at hb; omega))⟩
      rw [j4M y HS.out hkl (by rw [<-HX.out]; exact HSM.out),<-HY.out,if_pos hz]
      have e1:zs.take k++zs.drop (k+1)=its (l.take k++l.drop (k+1)):=by
       rw [x1V,z4T,z4U,<-HL,List.take_set_of_le (Nat.le_refl _),List.drop_set_of_lt (by omega)]
      rw [e1]
      refine z1V.closed S3 (fun x hx=> ?_) (A7.remove k)
      have hxl:x∈l:=by
       rcases List.mem_append.1 hx with h | h
       ·
        exact List.mem_of_mem_take h
       ·
        exact List.mem_of_mem_drop h
      exact ((R7 x hxl).keptB hg3' (j1G S7 (R7 x hxl))).wide (Nat.le_refl _) (by have:=S7.2.2.2; have:=hg3'.size; omega) (Nat.le_refl _)
    ·
     go_wp2;go_ret;refine ⟨_,rfl,?_,O7.out⟩;rw [j4M y HS.out hkl (by rw [<-HX.out]; exact HSM.out),<-HY.out,if_neg hz];exact H7.out.wide (Nat.le_refl _) (by have:=O7.out.size; have:=HZ.out.hi_le; omega) (Nat.le_refl _)
   ·
    have hfin:k<n->ordL x r≠-1/\x≠r:=fun hlt=>⟨fun e=>hcont ⟨hlt,e⟩,fun e=>hsame ⟨hlt,e⟩⟩;have HF:Hid (k<zs.length->ordL (zs.getD k ([],0)).1 r≠-1/\(zs.getD k ([],0)).1≠r):=by rw [<-HN.out,<-HX.out]; exact hfin
    have hkl:k<=zs.length:=by rw [<-HN.out]; exact hk
    clear hcont hsame hwz;by_cases hy0:y=0
    ·
     subst hy0;have hput:putZ zs r 0=zs:=z6I HS.out hkl HF.out;have HP:Hid (putZ zs r 0=zs):=hput;clear hput;by_cases hlt:k<n
     ·
      obtain ⟨xv,hx,hy,hix⟩:=cells hlt;obtain ⟨xa,xn,xc,rfl⟩:=hix.shape;have hlessB:=z4O (hfin hlt).1;have hsameB:=q5B (hfin hlt).2;clear cells Zr hfin;go_wp2_with fail;refine (x1J hlessB hix hrr).mono ?_;rintro e w5 ⟨rfl,hd5⟩;have hx5:=(hd5.below.cell (p:=⟨g,k*2,none⟩) (v1S hx)).trans hx;have hix5:=hix.below hd5.below;have hrr5:=hrr.below hd5.below;have HK5:Hid (Below w.heap.size w w5):=z1D HW.out hd5.below;clear hix hrr hd5 hx hy;go_wp2_with fail;refine (v1D hsameB hix5 hrr5).mono ?_;rintro e w6 ⟨rfl,hd6⟩;have HK:Hid (Below w.heap.size w w6):=z1D HK5.out hd6.below;clear hix5 hrr5 hd6 hx5 HK5;go_wp2;go_ret;refine ⟨_,rfl,?_,Only.of_below HK.out⟩;rw [HP.out];exact (HZ.out.keep' HK.out).wide (Nat.le_refl _) (by have:=HK.out.size; have:=HZ.out.hi_le; omega) (Nat.le_refl _)
     ·
      clear cells Zr hfin hrr;go_wp2;go_ret;refine ⟨_,rfl,?_,Only.of_below HW.out⟩;rw [HP.out];exact (HZ.out.keep' HW.out).wide (Nat.le_refl _) (by have:=HW.out.size; have:=HZ.out.hi_le; omega) (Nat.le_refl _)
    ·
     have hput:putZ zs r y=zs.take k++(r,y) :: zs.drop k:=q5F hy0 HS.out hkl HF.out;have HP:Hid (putZ zs r y=zs.take k++(r,y) :: zs.drop k):=hput;clear hput;have hkc:k<=cap:=by omega
     by_cases hlt:k<n
     ·
      obtain ⟨xv,hx,hy,hix⟩:=cells hlt;obtain ⟨xa,xn,xc,rfl⟩:=hix.shape;have hlessB:=z4O (hfin hlt).1;have hsameB:=q5B (hfin hlt).2;clear cells Zr hfin;go_wp2_with fail;refine (x1J hlessB hix hrr).mono ?_;rintro e w5 ⟨rfl,hd5⟩;have hx5:=(hd5.below.cell (p:=⟨g,k*2,none⟩) (v1S hx)).trans hx;have hix5:=hix.below hd5.below;have hrr5:=hrr.below hd5.below;have HK5:Hid (Below w.heap.size w w5):=z1D HW.out hd5.below;clear hix hrr hd5 hx hy;go_wp2_with fail;refine (v1D hsameB hix5 hrr5).mono ?_;rintro e w6 ⟨rfl,hd6⟩;have HK:Hid (Below w.heap.size w w6):=z1D HK5.out hd6.below;clear hix5 hrr5 hd6 hx5 HK5;obtain ⟨l,ad,HL,HS6,HR6,HA6,hll,hif,hpr⟩:=j4L (HZ.out.keep' HK.out) HN.out hk hcap;obtain rfl:ad=⟨g,k*2,none⟩:=by rw [if_neg (by omega)] at hif; simpa using hif.symm
      clear hif;have ho1:(w6.alloc (.cells #[] 47)).ownsRow w6.heap.size 47 2 (.slice (some ⟨w6.heap.size,0,none⟩) 0 0) 0 []:=World.ownsRow_lit w6 #[] 0 (Nat.le_refl _) (by unfold maxLen; omega) rfl;have hpr1:z1Y (w6.alloc (.cells #[] 47)) (.slice (some ⟨g,k*2,none⟩) (n - k) (cap - k)) ((prs l).drop k):=hpr.below (z1C _);have hdl:((prs l).drop k).length=n - k:=by rw [List.length_drop,z1H,hll.out]
      have hsl:((prs l).take k).length=k:=by rw [List.length_take,z1H,hll.out]; omega
      clear hpr;go_wp2_with (at_builtin; refine z1K rfl _ _ 35 rfl w6.heap.size 47 i0 Tryz.underlying35 hi0 hz0 hz1 hz2 (.slice (some ⟨w6.heap.size,0,none⟩) 0 0) [] rfl ho1 _ ((prs l).drop k) rfl hpr1 (by rw [hdl]; simp; omega) (by simp) ?_; intro vt w8 hown8 hg8 hnn8);clear hpr1;obtain ⟨gt,ct,rfl,hgt,hpt8⟩:=j3D (by simpa using hown8) (hnn8 (by simp)) hdl (by omega) HR6.out;have hb8:Below w6.heap.size w6 w8:=(z1C _).grown hg8 (by simp) (by simp [Value.ownBlock]);have HK8:Hid (Below w.heap.size w w8):=z1D HK.out hb8;have S8:=HS6.out.keep' hb8;have hrr8:z1E w8.drew (.slice ra rn rc) r:=HR.out.below HK8.out.drew;have hspd:w8.drew.ownsRow lo 47 2 (.slice (some ⟨g,0,none⟩) k cap) ((prs l).take k).length (z1Z ((prs l).take k)):=(S8.taken (k:=k) (by rw [z1H,hll.out]; exact hk)).1;have hsz8:=HK8.out.size;have hlo8:lo<=w8.drew.heap.size:=by have:=S8.2.2.2; show lo<=w8.heap.size; omega
      have hgne:gt≠g:=by have:=HS6.out.2.2.2; omega
      have HS8:Hid (z1P w8 lo hi (.slice (some ⟨g,0,none⟩) n cap) (prs l)):=S8;have HR8:Hid (∀ x∈l,Own w8 lo hi x.1 x.2.1):=fun x hx=>(HR6.out x hx).keep' hb8;have hpt8d:z1Y w8.drew (.slice (some ⟨gt,0,none⟩) (n - k) ct) ((prs l).drop k):=hpt8;clear S8 hpt8 hown8 hg8 hnn8 ho1 HS6 HR6;go_region_law (first
       | (go_simp; go_at_call 108; (refine (z2J _ r _ hrr8 hrl).mono ?_; rintro e w9 ⟨rv9,rfl,O9,hb9⟩; obtain ⟨ra9,rn9,rc9,rfl⟩:=O9.ints.shape; have hsp9:=j4Q hspd (z1D hb9 (z1C (.cells #[.slice ra9 rn9 rc9,.int .i64 y] 47))); have hpl9:=x2D w9 47 (rv:=.slice ra9 rn9 rc9) y ⟨_,_,_,rfl⟩; have hlo9:lo<=(w9.alloc (.cells #[.slice ra9 rn9 rc9,.int .i64 y] 47)).heap.size:=(by have:=hb9.size; simp; omega); have hpt9:=hpt8d.below (z1D hb9 (z1C (.cells #[.slice ra9 rn9 rc9,.int .i64 y] 47)))))
       | ((refine q1L rfl (.tmp 73) (.tmp 78) 35 rfl lo 47 i0 Tryz.underlying35 hi0 hz0 hz1 hz2 (.slice (some ⟨g,0,none⟩) k cap) ((prs l).take k) (by simp [Act.eval]) hsp9 ⟨w9.heap.size,0,none⟩ 1 1 [(.slice ra9 rn9 rc9,y)] (by simp [Act.eval]) hpl9 (by rw [hsl]; simp; omega) hlo9 ?_; intro v10 w10 hown10 hg10 hat10; have hpt10:=hpt9.kept hg10 (fun e=>hgne (Option.some.inj e).symm); have hlo10:=Nat.le_trans hlo9 hg10.size))
       | ((refine q1L rfl (.tmp 79) (.tmp 80) 35 rfl lo 47 i0 Tryz.underlying35 hi0 hz0 hz1 hz2 v10 ((prs l).take k++[(.slice ra9 rn9 rc9,y)]) (by simp [Act.eval]) hown10 ⟨gt,0,none⟩ (n - k) ct ((prs l).drop k) (by simp [Act.eval]) hpt10 (by rw [List.length_append,hsl,hdl]; simp; omega) hlo10 ?_; intro v11 w11 hown11 hg11 hat11)))
      all_goals
       obtain ⟨Z11,O11⟩:=z4F HS8.out HR8.out HA6.out (by rw [hll.out]; exact hk) (fun i e=>by simp [Value.ownBlock] at e; omega) hlo (by rw [hll.out]; exact hlim) O9 hb9 hown10 hg10 hat10 hown11 hg11
       rw [z4T,z4U,<-HL.out,<-HP.out] at Z11
       have HO11:Hid (Only lo hi w w11):=(Only.of_below HK8.out).trans O11
       clear O11 hown10 hown11 hg10 hg11 hat10 hat11 hpt10 hpt9 hsp9 hpl9 hb9 O9 hspd hrr8 hpt8d hb8
       go_wp2
       go_ret
       exact ⟨_,rfl,Z11,HO11.out⟩
     ·
      clear cells Zr hfin hrr;have HK:Hid (Below w.heap.size w wr):=HW.out;obtain ⟨l,ad,HL,HS6,HR6,HA6,hll,hif,hpr⟩:=j4L (HZ.out.keep' HK.out) HN.out hk hcap;have ho1:(wr.alloc (.cells #[] 47)).ownsRow wr.heap.size 47 2 (.slice (some ⟨wr.heap.size,0,none⟩) 0 0) 0 []:=World.ownsRow_lit wr #[] 0 (Nat.le_refl _) (by unfold maxLen; omega) rfl;have hpr1:z1Y (wr.alloc (.cells #[] 47)) (.slice (some ad) (n - k) (cap - k)) ((prs l).drop k):=hpr.below (z1C _);have hdl:((prs l).drop k).length=n - k:=by rw [List.length_drop,z1H,hll.out]
      have hsl:((prs l).take k).length=k:=by rw [List.length_take,z1H,hll.out]; omega
      clear hpr;go_wp2_with (at_builtin; refine z1K rfl _ _ 35 rfl wr.heap.size 47 i0 Tryz.underlying35 hi0 hz0 hz1 hz2 (.slice (some ⟨wr.heap.size,0,none⟩) 0 0) [] rfl ho1 _ ((prs l).drop k) rfl hpr1 (by rw [hdl]; simp; omega) (by simp) ?_; intro vt w8 hown8 hg8 hnn8);clear hpr1 hif;obtain ⟨gt,ct,rfl,hgt,hpt8⟩:=j3D (by simpa using hown8) (hnn8 (by simp)) hdl (by omega) HR6.out;have hb8:Below wr.heap.size wr w8:=(z1C _).grown hg8 (by simp) (by simp [Value.ownBlock]);have HK8:Hid (Below w.heap.size w w8):=z1D HK.out hb8;have S8:=HS6.out.keep' hb8;have hrr8:z1E w8.drew (.slice ra rn rc) r:=HR.out.below HK8.out.drew;have hspd:w8.drew.ownsRow lo 47 2 (.slice (some ⟨g,0,none⟩) k cap) ((prs l).take k).length (z1Z ((prs l).take k)):=(S8.taken (k:=k) (by rw [z1H,hll.out]; exact hk)).1;have hsz8:=HK8.out.size;have hlo8:lo<=w8.drew.heap.size:=by have:=S8.2.2.2; show lo<=w8.heap.size; omega
      have hgne:gt≠g:=by have:=HS6.out.2.2.2; omega
      have HS8:Hid (z1P w8 lo hi (.slice (some ⟨g,0,none⟩) n cap) (prs l)):=S8;have HR8:Hid (∀ x∈l,Own w8 lo hi x.1 x.2.1):=fun x hx=>(HR6.out x hx).keep' hb8;have hpt8d:z1Y w8.drew (.slice (some ⟨gt,0,none⟩) (n - k) ct) ((prs l).drop k):=hpt8;clear S8 hpt8 hown8 hg8 hnn8 ho1 HS6 HR6;go_region_law (first
       | (go_simp; go_at_call 108; (refine (z2J _ r _ hrr8 hrl).mono ?_; rintro e w9 ⟨rv9,rfl,O9,hb9⟩; obtain ⟨ra9,rn9,rc9,rfl⟩:=O9.ints.shape; have hsp9:=j4Q hspd (z1D hb9 (z1C (.cells #[.slice ra9 rn9 rc9,.int .i64 y] 47))); have hpl9:=x2D w9 47 (rv:=.slice ra9 rn9 rc9) y ⟨_,_,_,rfl⟩; have hlo9:lo<=(w9.alloc (.cells #[.slice ra9 rn9 rc9,.int .i64 y] 47)).heap.size:=(by have:=hb9.size; simp; omega); have hpt9:=hpt8d.below (z1D hb9 (z1C (.cells #[.slice ra9 rn9 rc9,.int .i64 y] 47)))))
       | ((refine q1L rfl (.tmp 73) (.tmp 78) 35 rfl lo 47 i0 Tryz.underlying35 hi0 hz0 hz1 hz2 (.slice (some ⟨g,0,none⟩) k cap) ((prs l).take k) (by simp [Act.eval]) hsp9 ⟨w9.heap.size,0,none⟩ 1 1 [(.slice ra9 rn9 rc9,y)] (by simp [Act.eval]) hpl9 (by rw [hsl]; simp; omega) hlo9 ?_; intro v10 w10 hown10 hg10 hat10; have hpt10:=hpt9.kept hg10 (fun e=>hgne (Option.some.inj e).symm); have hlo10:=Nat.le_trans hlo9 hg10.size))
       | ((refine q1L rfl (.tmp 79) (.tmp 80) 35 rfl lo 47 i0 Tryz.underlying35 hi0 hz0 hz1 hz2 v10 ((prs l).take k++[(.slice ra9 rn9 rc9,y)]) (by simp [Act.eval]) hown10 ⟨gt,0,none⟩ (n - k) ct ((prs l).drop k) (by simp [Act.eval]) hpt10 (by rw [List.length_append,hsl,hdl]; simp; omega) hlo10 ?_; intro v11 w11 hown11 hg11 hat11)))
      all_goals
       obtain ⟨Z11,O11⟩:=z4F HS8.out HR8.out HA6.out (by rw [hll.out]; exact hk) (fun i e=>by simp [Value.ownBlock] at e; omega) hlo (by rw [hll.out]; exact hlim) O9 hb9 hown10 hg10 hat10 hown11 hg11
       rw [z4T,z4U,<-HL.out,<-HP.out] at Z11
       have HO11:Hid (Only lo hi w w11):=(Only.of_below HK8.out).trans O11
       clear O11 hown10 hown11 hg10 hg11 hat10 hat11 hpt10 hpt9 hsp9 hpl9 hb9 O9 hspd hrr8 hpt8d hb8
       go_wp2
       go_ret
       exact ⟨_,rfl,Z11,HO11.out⟩
theorem x5Z (lo hi:Nat) (rv:Value) (r:List Int) (y:Int) (w:World) (hlo:lo<=hi) (hhi:hi<=w.heap.size) (hr:z1E w rv r) (hrl:r.length<=8796093022208) :
  Calls Tryz.prog 98 #[.slice none 0 0,rv,.int .i64 y] w fun e w'=> ∃ v',e = .returned v'/\z1V w' lo w'.heap.size v' (putZ [] r y)/\Only lo hi w w':=by
 obtain ⟨i0,hi0,hz0,hz1,hz2⟩:=info_parts infoItem;obtain ⟨ra,rn,rc,rfl⟩:=hr.shape;have HR:Hid (z1E w (.slice ra rn rc) r):=hr;by_cases hy0:y=0
 ·
  subst hy0;clear hr;go_enter Tryz.func98,Tryz.ntmps98;go_wp2;refine wp_loop_rounds 1 ?_;rw [rounds_succ];go_wp2;go_ret;exact ⟨_,rfl,by simpa [putZ] using q1D w lo,Only.refl _ _ _⟩
 ·
  have HP:Hid (putZ [] r y=[(r,y)]):=by simp [Hid,putZ,hy0]
  have ho1:(w.alloc (.cells #[] 47)).ownsRow w.heap.size 47 2 (.slice (some ⟨w.heap.size,0,none⟩) 0 0) 0 []:=World.ownsRow_lit w #[] 0 (Nat.le_refl _) (by unfold maxLen; omega) rfl;have hpr1:z1Y (w.alloc (.cells #[] 47)) (.slice none 0 0) []:=⟨by simp,fun p hp=>by simp at hp,none,0,rfl,fun _=>rfl,fun h=>absurd rfl h⟩;clear hr;go_enter Tryz.func98,Tryz.ntmps98;go_wp2;refine wp_loop_rounds 1 ?_;rw [rounds_succ];go_wp2_with (at_builtin; refine z1K rfl _ _ 35 rfl w.heap.size 47 i0 Tryz.underlying35 hi0 hz0 hz1 hz2 (.slice (some ⟨w.heap.size,0,none⟩) 0 0) [] rfl ho1 _ [] rfl hpr1 (by simp) (by simp) ?_; intro vt w8 hown8 hg8 hnn8);obtain ⟨gt,ct,rfl,hgt,hpt8⟩:=j3D (l:=[]) (k:=0) (W:=w) (lo':=0) (hi':=0) (by simpa [prs] using hown8) (hnn8 (by simp)) (by simp [prs]; rfl) (by omega) (fun x hx=>by simp at hx);have hb8:Below w.heap.size w w8:=(z1C _).grown hg8 (by simp) (by simp [Value.ownBlock]);have hrr8:z1E w8.drew (.slice ra rn rc) r:=HR.out.below hb8.drew;have hspd:w8.drew.ownsRow lo 47 2 (.slice none 0 0) ([]:List (Value × Int)).length (z1Z []):=World.ownsRow_nil _ _ _ _;have hsz8:=hb8.size;have hlo8:lo<=w8.drew.heap.size:=by show lo<=w8.heap.size; omega
  have HS8:Hid (z1P w8 lo hi (.slice none 0 0) (prs [])):=⟨World.ownsRow_nil _ _ _ _,fun k hk=>by simp [Value.ownBlock] at hk,by simp [prs],by omega⟩;have hpt8d:z1Y w8.drew (.slice (some ⟨gt,0,none⟩) 0 ct) []:=by have:=hpt8.below (Below.drew (Below.refl _ _)); simpa [prs] using this
  have HB8:Hid (Below w.heap.size w w8):=hb8;clear hpt8 hown8 hg8 hnn8 ho1 hpr1 hb8;go_region_law (first
   | (go_simp; go_at_call 108; (refine (z2J _ r _ hrr8 hrl).mono ?_; rintro e w9 ⟨rv9,rfl,O9,hb9⟩; obtain ⟨ra9,rn9,rc9,rfl⟩:=O9.ints.shape; have hsp9:(w9.alloc (.cells #[.slice ra9 rn9 rc9,.int .i64 y] 47)).ownsRow lo 47 2 (.slice none 0 0) ([]:List (Value × Int)).length (z1Z []):=World.ownsRow_nil _ _ _ _; have hpl9:=x2D w9 47 (rv:=.slice ra9 rn9 rc9) y ⟨_,_,_,rfl⟩; have hlo9:lo<=(w9.alloc (.cells #[.slice ra9 rn9 rc9,.int .i64 y] 47)).heap.size:=(by have:=hb9.size; simp; omega); have hpt9:=hpt8d.below (z1D hb9 (z1C (.cells #[.slice ra9 rn9 rc9,.int .i64 y] 47)))))
   | ((refine q1L rfl (.tmp 73) (.tmp 78) 35 rfl lo 47 i0 Tryz.underlying35 hi0 hz0 hz1 hz2 (.slice none 0 0) [] (by simp [Act.eval]) hsp9 ⟨w9.heap.size,0,none⟩ 1 1 [(.slice ra9 rn9 rc9,y)] (by simp [Act.eval]) hpl9 (by simp) hlo9 ?_; intro v10 w10 hown10 hg10 hat10; have hpt10:=hpt9.kept hg10 (fun e=>by simp [Value.ownBlock] at e); have hlo10:=Nat.le_trans hlo9 hg10.size))
   | ((refine q1L rfl (.tmp 79) (.tmp 80) 35 rfl lo 47 i0 Tryz.underlying35 hi0 hz0 hz1 hz2 v10 ([]++[(.slice ra9 rn9 rc9,y)]) (by simp [Act.eval]) hown10 ⟨gt,0,none⟩ 0 ct [] (by simp [Act.eval]) hpt10 (by simp) hlo10 ?_; intro v11 w11 hown11 hg11 hat11)))
  all_goals
   obtain ⟨Z11,O11⟩:=z4F (k:=0) (l:=[]) HS8.out (fun x hx=>by simp at hx) List.Pairwise.nil (by simp) (fun i e=>by simp [Value.ownBlock] at e) hlo (by simp) O9 hb9 hown10 hg10 hat10 hown11 hg11
   have Z:z1V w11 lo w11.heap.size v11 (putZ [] r y):=by rw [HP.out]; simpa [its] using Z11
   have HO11:Hid (Only lo hi w w11):=(Only.of_below HB8.out).trans O11
   clear O11 Z11 hown10 hown11 hg10 hg11 hat10 hat11 hpt10 hpt9 hsp9 hpl9 hb9 O9 hspd hrr8 hpt8d
   go_wp2
   go_ret
   exact ⟨_,rfl,Z,HO11.out⟩
theorem k1Q (v:Value) (lo hi:Nat) (zs:List It) (rv:Value) (r:List Int) (y:Int) (w:World) (h:z1V w lo hi v zs) (hlo:lo<=hi)
  (hr:z1E w rv r) (hlim:zs.length<=1099511627775) (hrl:r.length<=8796093022208) (hwz:∀ j,j<zs.length->-4611686018427387904<=(zs.getD j ([],0)).2/\(zs.getD j ([],0)).2<=4611686018427387903) (hwy : -4611686018427387904<=y/\y<=4611686018427387903) :
  Calls Tryz.prog 98 #[v,rv,.int .i64 y] w fun e w'=> ∃ v',e = .returned v'/\z1V w' lo w'.heap.size v' (putZ zs r y)/\Only lo hi w w':=by
 have hh:=h;obtain ⟨ps,he,hs,_⟩:=hh;have hl:=x1X he;rcases hs.1.2 with ⟨rfl,h0⟩ | ⟨g,cap,cur,rfl,hg1,hg,hnc,hcm,_⟩
 ·
  have hz:zs=[]:=List.length_eq_zero_iff.1 (by omega);subst hz;exact x5Z lo hi rv r y w hlo hs.2.2.2 hr hrl
 ·
  rw [hl] at h ⊢;exact x5Y g zs.length cap lo hi zs rv r y w h rfl hlo hg1 (hs.2.1 g rfl) (by omega) (by have:=hcm; simp only [maxLen] at this; omega) hr hlim hrl hwz hwy
def j1T (w:World) (l:List Rw):Prop:=∀ x∈l,z1E w x.1 x.2.1
theorem j1T.below {w w':World} {l:List Rw} (h:j1T w l) (hb:Below w.heap.size w w'):j1T w' l:=fun x hx=>(h x hx).below hb
theorem j1T.shape {w:World} {l:List Rw} (h:j1T w l):∀ p∈prs l,∃ a n c,p.1=Value.slice a n c:=fun p hp=>by
 obtain ⟨q,hq,rfl⟩:=List.mem_map.1 hp
 exact (h q hq).shape
theorem z1I.opened {w:World} {v:Value} {zs:List It} (h:z1I w v zs):∃ l:List Rw,zs=its l/\z1Y w v (prs l)/\j1T w l:=by
 obtain ⟨ps,hp,he,hr⟩:=h.pairs;have hl:=x1X he;have hL:(List.zipWith (fun (p:Value × Int) (z:It)=>((p.1,z):Rw)) ps zs).length=ps.length:=by simp; omega
 have hg:∀ j (hj:j<ps.length),(List.zipWith (fun (p:Value × Int) (z:It)=>((p.1,z):Rw)) ps zs)[j]'(by omega)=((ps.getD j (vn,0)).1,zs.getD j ([],0)):=fun j hj=>by
  have hz:j<zs.length:=by omega
  simp [List.getD,hj,hz]
 have e1:its (List.zipWith (fun (p:Value × Int) (z:It)=>((p.1,z):Rw)) ps zs)=zs:=by
  apply List.ext_getElem
  ·
   simp [its]; omega
  ·
   intro j h1 h2;simp [its]
 have e2:prs (List.zipWith (fun (p:Value × Int) (z:It)=>((p.1,z):Rw)) ps zs)=ps:=by
  apply List.ext_getElem
  ·
   simp [prs]; omega
  ·
   intro j h1 h2;have hz:j<zs.length:=by omega
   have:=j2A he j;simp [List.getD,h2,hz] at this;simp [prs,<-this]
 refine ⟨_,e1.symm,by rw [e2]; exact hp,fun x hx=> ?_⟩;obtain ⟨j,hj,rfl⟩:=List.getElem_of_mem hx;rw [hL] at hj;rw [hg j hj];exact hr j (by omega)
theorem z1Y.itemsOf {w:World} {v:Value} {l:List Rw} (h:z1Y w v (prs l)) (hr:j1T w l):z1I w v (its l):=by
 refine h.items (by simp [prs,its]) fun j hj=> ?_;rw [q1E] at hj;have:=hr _ (List.getElem_mem hj);simpa [prs,its,List.getD,hj] using this
theorem meet_any (a:Value) (y1:Int) (b:Value) (y2:Int) (w:World) (ha:∃ x n c,a = .slice x n c) (hb:∃ x n c,b = .slice x n c) (h1 : -4611686018427387904<=y1/\y1<=4611686018427387903) (h2 : -4611686018427387904<=y2/\y2<=4611686018427387903) :
  Calls Tryz.prog 79 #[.agg #[a,.int .i64 y1],.agg #[b,.int .i64 y2]] w fun e w'=>e = .returned (.agg #[a,.int .i64 (y1+y2)])/\Below w.heap.size w w':=by
 obtain ⟨xa,xn,xc,rfl⟩:=ha;obtain ⟨ya,yn,yc,rfl⟩:=hb;go_enter Tryz.func79,Tryz.ntmps79;go_wp2;exact bodyPost_ret (v:=.agg #[.slice xa xn xc,.int .i64 (y1+y2)]) (by simp [results,Tryz.results79,go_sem]) rfl ⟨rfl,z1D (z1D (z1C _) (z1C _)) (z1C _)⟩
def sLen (v:Value):Nat:=match v with
 | .slice _ n _=>n
 | _=>0
def z5K (w:World) (s:Value) (ps:List (Value × Int)):Prop:=z1Y w s ps/\∃ a c,s = .slice a ps.length c/\ps.length<=c/\c<=9223372036854775807
theorem z5K.below {w w':World} {s:Value} {ps:List (Value × Int)} (h:z5K w s ps) (hb:Below w.heap.size w w'):z5K w' s ps:=⟨h.1.below hb,h.2⟩
theorem z5K.next {w:World} {s:Value} {p:Value × Int} {ps:List (Value × Int)} (h:z5K w s (p :: ps)) :
  ∃ (b off c:Nat) (ad:Addr),s = .slice (some ⟨b,off,none⟩) (ps.length+1) c/\ps.length+1<=c/\c<=9223372036854775807/\b<w.heap.size/\w.cell? ⟨b,off,none⟩=some p.1/\w.cell? ⟨b,off+1,none⟩=some (.int .i64 p.2) ∧
   (if c=1 then some (⟨b,off,none⟩:Addr) else some ⟨b,off+2,none⟩)=some ad/\z5K w (.slice (some ad) ps.length (c - 1)) ps:=by
 obtain ⟨⟨h1,h2,a,cap,rfl,h4,hc⟩,a',c,e,hcap,hmax⟩:=h;simp at e;obtain ⟨rfl,rfl⟩:=e;obtain ⟨b,off,rfl,hb,hcell⟩:=hc (by simp);obtain ⟨c0,c1⟩:=hcell 0 (by simp);simp at c0 c1 hcap h1;have hp:z1Y w (.slice (some ⟨b,off,none⟩) (ps.length+1) cap) (p :: ps):=⟨by simp; omega,h2,_,cap,by simp,fun h=>by simp at h,fun _=>⟨b,off,rfl,hb,hcell⟩⟩;by_cases hc1:cap=1
 ·
  refine ⟨b,off,cap,⟨b,off,none⟩,by simp,hcap,hmax,hb,c0,c1,if_pos hc1,?_,_,_,rfl,by omega,by omega⟩;have h0:ps=[]:=List.length_eq_zero_iff.1 (by omega);subst h0;exact ⟨by simp,fun p hp=>by simp at hp,_,_,rfl,fun h=>by simp at h,fun h=>absurd rfl h⟩
 ·
  refine ⟨b,off,cap,⟨b,off+2,none⟩,by simp,hcap,hmax,hb,c0,c1,if_neg hc1,?_,_,_,rfl,by omega,by omega⟩;have:=hp.dropped (k:=1) (by simp) (cap - 1);simpa using this
theorem x1N {w:World} {lo hi:Nat} {v xv:Value} {done:List Rw} (y:Int) (S:z1P w lo hi v (prs done)) (hs:∃ a n c,xv=Value.slice a n c) (hlo:lo<=w.heap.size) (hlim:done.length<=1099511627776) :
  (w.alloc (.cells #[xv,.int .i64 y] 47)).ownsRow lo 47 2 v (prs done).length (z1Z (prs done))/\z1Y (w.alloc (.cells #[xv,.int .i64 y] 47)) (.slice (some ⟨w.heap.size,0,none⟩) 1 1) [(xv,y)] ∧
   ∀ v' w' (x:List Int),w'.ownsRow lo 47 2 v' (prs done++[(xv,y)]).length (z1Z (prs done++[(xv,y)]))->(w.alloc (.cells #[xv,.int .i64 y] 47)).grownBy w' v.ownBlock->z1P w' lo w'.heap.size v' (prs (done++[(xv,(x,y))]))/\Below lo w w':=by
 have hb:=z1C (w:=w) (.cells #[xv,.int .i64 y] 47);refine ⟨(S.keep' hb).1,x2D w _ y hs,fun v' w' x ho hg=>⟨?_,?_⟩⟩
 ·
  have e:prs (done++[(xv,(x,y))])=prs done++[(xv,y)]:=by simp [prs]
  rw [e];exact v1C ho (by rw [List.length_append,z1H]; simp; omega)
 ·
  exact (hb.mono hlo).grown hg (by simp; omega) (fun k hk=>(S.1.lt k hk).1)
theorem mrg_lt {x y:It} {a b:List It} (h:ordL x.1 y.1 = -1):mrgZ (x :: a) (y :: b)=x :: mrgZ a (y :: b):=by rw [q2P,if_pos h]
theorem mrg_gt {x y:It} {a b:List It} (h:ordL x.1 y.1=1):mrgZ (x :: a) (y :: b)=y :: mrgZ (x :: a) b:=by rw [q2P,if_neg (by omega),if_pos h]
theorem mrg_eq {x y:It} {a b:List It} (h:ordL x.1 y.1=0):mrgZ (x :: a) (y :: b)=(x.1,x.2+y.2) :: mrgZ a b:=by rw [q2P,if_neg (by omega),if_neg (by omega)]
def Low (l:List Rw):Prop:=∀ x∈l,-4611686018427387904<=x.2.2/\x.2.2<=4611686018427387903
theorem q6B (va vb:Value) (A B:List Rw) (w:World) (ha:z5K w va (prs A)) (hb:z5K w vb (prs B)) (hra:j1T w A) (hrb:j1T w B) (hla:Low A) (hlb:Low B) (hA:A.length<=1048576) (hB:B.length<=1048576) :
  Calls Tryz.prog 78 #[va,vb,.func (.func 42) #[] #[],.func (.func 79) #[] #[]] w fun e w'=> ∃ v',e = .returned v'/\∃ l:List Rw,its l=mrgZ (its A) (its B)/\j1T w l/\z1P w' w.heap.size w'.heap.size v' (prs l)/\Below w.heap.size w w':=by
 obtain ⟨i0,hi0,hz0,hz1,hz2⟩:=info_parts infoItem;have hva:=ha.2;have hvb:=hb.2;obtain ⟨aa,ca,rfl,hca,hcam⟩:=hva;obtain ⟨ba,cb,rfl,hcb,hcbm⟩:=hvb;have HA:Hid (z5K w (.slice aa (prs A).length ca) (prs A)):=ha;have HB:Hid (z5K w (.slice ba (prs B).length cb) (prs B)):=hb;have HRA:Hid (j1T w A):=hra;have HRB:Hid (j1T w B):=hrb;have HLA:Hid (Low A):=hla;have HLB:Hid (Low B):=hlb;obtain ⟨n,hn⟩:∃ n,n=(prs A).length:=⟨_,rfl⟩;obtain ⟨m,hm⟩:∃ m,m=(prs B).length:=⟨_,rfl⟩;rw [<-z1H,<-hn] at hA;rw [<-z1H,<-hm] at hB;have HN:Hid (n=(prs A).length):=hn;have HM:Hid (m=(prs B).length):=hm;rw [<-hn] at HA hca ⊢;rw [<-hm] at HB hcb ⊢;clear ha hb hra hrb hla hlb hn hm hca hcb hcam hcbm;go_enter Tryz.func78,Tryz.ntmps78;go_wp2_with (at_make; refine wpList_make_own _ rfl _ _ 35 rfl w.heap.size 47 i0 (.agg #[.slice none 0 0,.int .i64 0]) 2 Tryz.underlying35 hi0 hz0 hz1 _ _ _ (n+m) rfl rfl (by omega) (by rw [hz2]; omega) (by unfold maxLen; omega) (Nat.le_refl _) ?_; intro w1 hown1 hgrow1; have hb1:Below w.heap.size w w1:=(Below.refl _ _).grown hgrow1 (Nat.le_refl _) (by simp));have S1:Hid (z1P w1 w.heap.size w1.heap.size (.slice (some ⟨w.heap.size,0,none⟩) 0 (n+m)) (prs [])):=v1C (n:=0) hown1 (by simp [prs]);have HB1:Hid (Below w.heap.size w w1):=hb1;clear hown1 hgrow1 hb1;go_loopw [0,1,9] (fun s0 s1 s9 wr=> ∃ la lb done:List Rw,Hid (z5K w s0 (prs la))/\Hid (z5K w s1 (prs lb))/\Hid (its done++mrgZ (its la) (its lb)=mrgZ (its A) (its B))/\Hid (j1T w la)/\Hid (j1T w lb)/\Hid (j1T w done)/\Hid (Low la)/\Hid (Low lb) ∧
   la.length+lb.length+done.length<=2097152/\Hid (z1P wr w.heap.size wr.heap.size s9 (prs done))/\Hid (Below w.heap.size w wr)) (fun s0 s1 _ _=>sLen s0+sLen s1)
 case atStart=>exact ⟨A,B,[],HA.out,HB.out,by simp [Hid,its],HRA.out,HRB.out,fun x hx=>by simp at hx,HLA.out,HLB.out,by have h1:=HN.out; have h2:=HM.out; rw [z1H] at h1 h2; simp; omega,S1.out,HB1.out⟩
 case round=>
  obtain ⟨la,lb,done,HTA,HTB,HE,HRa,HRb,HRd,HLa,HLb,hlen,HS,HW⟩:=hrel;clear HA HB HRA HRB HLA HLB S1 HB1;by_cases hstop:la=[]\/lb=[]
  ·
   have HFIN:Hid (its (done++la++lb)=mrgZ (its A) (its B)):=by
    show its (done++la++lb)=_;rw [<-HE.out,x1V,x1V,List.append_assoc];rcases hstop with h | h
    ·
     rw [h]; simp [its,k2K]
    ·
     rw [h]; simp [its,mrgZ_nil']
   have HRF:Hid (j1T w (done++la++lb)):=fun x hx=>by
    rcases List.mem_append.1 hx with h | h
    ·
     rcases List.mem_append.1 h with h | h
     ·
      exact HRd.out x h
     ·
      exact HRa.out x h
    ·
     exact HRb.out x h
   obtain ⟨hpa,a0,c0,rfl,hc0,hm0⟩:=HTA.out;obtain ⟨hpb,a1,c1,rfl,hc1,hm1⟩:=HTB.out;have hown0:=HS.out.1;have hpa1:=hpa.below HW.out;have hwsz:=HW.out.size;have hlA:(prs la).length=la.length:=z1H la;have hlB:(prs lb).length=lb.length:=z1H lb;have hlD:(prs done).length=done.length:=z1H done;obtain ⟨k0,HK0⟩:∃ k,Hid (k=(prs la).length):=⟨_,rfl⟩;obtain ⟨k1,HK1⟩:∃ k,Hid (k=(prs lb).length):=⟨_,rfl⟩;have hsum:((prs done).length+(prs la).length)*32<=140737488355328:=by omega
   have hsum2:((prs done++prs la).length+(prs lb).length)*32<=140737488355328:=by rw [List.length_append]; omega
   have hall:(prs done++prs la++prs lb).length<=140737488355328:=by rw [List.length_append,List.length_append]; omega
   have hk01:k0=0\/k1=0:=by
    rw [HK0.out,HK1.out];rcases hstop with h | h
    ·
     exact .inl (by rw [h]; rfl)
    ·
     exact .inr (by rw [h]; rfl)
   have hk0:k0<=2097152:=by rw [HK0.out]; omega
   have hk1:k1<=2097152:=by rw [HK1.out]; omega
   rw [<-HK0.out] at hpa1 hc0 ⊢;rw [<-HK1.out] at hpb hc1 ⊢;clear hstop hpa hlA hlB hlD hc0 hc1;by_cases hk00:k0=0
   ·
    subst hk00;go_wp2_with (first
     | (at_builtin; refine z1K rfl (.tmp 70) (.tmp 71) 35 rfl w.heap.size 47 i0 Tryz.underlying35 hi0 hz0 hz1 hz2 u9 (prs done) rfl hown0 (.slice a0 0 c0) (prs la) rfl hpa1 hsum hwsz ?_; intro v2 w2 hown2 hg2 _; have hb2:Below w.heap.size w w2:=HW.out.grown hg2 hwsz (fun k hk=>(hown0.lt k hk).1); have hpb2:=hpb.below hb2; have hwsz2:=hb2.size)
     | (at_builtin; refine z1K rfl (.tmp 72) (.tmp 73) 35 rfl w.heap.size 47 i0 Tryz.underlying35 hi0 hz0 hz1 hz2 v2 (prs done++prs la) rfl hown2 (.slice a1 k1 c1) (prs lb) rfl hpb2 hsum2 hwsz2 ?_; intro v3 w3 hown3 hg3 _; have hb3:Below w.heap.size w w3:=hb2.grown hg3 hwsz2 (fun k hk=>(hown2.lt k hk).1)))
    go_ret;refine ⟨_,rfl,done++la++lb,HFIN.out,HRF.out,?_,hb3⟩;rw [z2G,z2G];exact v1C hown3 hall
   ·
    obtain rfl:k1=0:=by omega
    have hk0p:0<k0:=by omega
    go_wp2_with (first
     | (at_builtin; refine z1K rfl (.tmp 70) (.tmp 71) 35 rfl w.heap.size 47 i0 Tryz.underlying35 hi0 hz0 hz1 hz2 u9 (prs done) rfl hown0 (.slice a0 k0 c0) (prs la) rfl hpa1 hsum hwsz ?_; intro v2 w2 hown2 hg2 _; have hb2:Below w.heap.size w w2:=HW.out.grown hg2 hwsz (fun k hk=>(hown0.lt k hk).1); have hpb2:=hpb.below hb2; have hwsz2:=hb2.size)
     | (at_builtin; refine z1K rfl (.tmp 72) (.tmp 73) 35 rfl w.heap.size 47 i0 Tryz.underlying35 hi0 hz0 hz1 hz2 v2 (prs done++prs la) rfl hown2 (.slice a1 0 c1) (prs lb) rfl hpb2 hsum2 hwsz2 ?_; intro v3 w3 hown3 hg3 _; have hb3:Below w.heap.size w w3:=hb2.grown hg3 hwsz2 (fun k hk=>(hown2.lt k hk).1)))
    go_ret;refine ⟨_,rfl,done++la++lb,HFIN.out,HRF.out,?_,hb3⟩;rw [z2G,z2G];exact v1C hown3 hall
  ·
   obtain ⟨p,la',rfl⟩:∃ p l,la=p :: l:=by cases la with | nil=>simp at hstop | cons p l=>exact ⟨p,l,rfl⟩
   obtain ⟨q,lb',rfl⟩:∃ p l,lb=p :: l:=by cases lb with | nil=>simp at hstop | cons p l=>exact ⟨p,l,rfl⟩
   clear hstop;obtain ⟨xv,x,y⟩:=p;obtain ⟨rv,r,y2⟩:=q;obtain ⟨b1,o1,c1,ad1,rfl,hc1,hm1,hbl1,hx0,hx1,hif1,hT1⟩:=HTA.out.next;obtain ⟨b2,o2,c2,ad2,rfl,hc2,hm2,hbl2,hr0,hr1,hif2,hT2⟩:=HTB.out.next;have hix:z1E w xv x:=HRa.out (xv,(x,y)) (by simp);have hir:z1E w rv r:=HRb.out (rv,(r,y2)) (by simp);have hyb : -4611686018427387904<=y/\y<=4611686018427387903:=HLa.out (xv,(x,y)) (by simp);have hyb2 : -4611686018427387904<=y2/\y2<=4611686018427387903:=HLb.out (rv,(r,y2)) (by simp);have HRa':Hid (j1T w la'):=fun z hz=>HRa.out z (by simp [hz]);have HRb':Hid (j1T w lb'):=fun z hz=>HRb.out z (by simp [hz]);have HLa':Hid (Low la'):=fun z hz=>HLa.out z (by simp [hz]);have HLb':Hid (Low lb'):=fun z hz=>HLb.out z (by simp [hz]);obtain ⟨n1,HN1⟩:∃ k,Hid (k=(prs la').length):=⟨_,rfl⟩;obtain ⟨n2,HN2⟩:∃ k,Hid (k=(prs lb').length):=⟨_,rfl⟩;have hl1:n1=la'.length:=by rw [HN1.out,z1H]
   have hl2:n2=lb'.length:=by rw [HN2.out,z1H]
   simp only [List.length_cons] at hlen;rw [<-hl1,<-hl2] at hlen;obtain ⟨d,HD⟩:∃ k,Hid (k=done.length):=⟨_,rfl⟩;rw [<-HD.out] at hlen;have HT1:Hid (z5K w (.slice (some ad1) n1 (c1 - 1)) (prs la')):=by rw [HN1.out]; exact hT1
   have HT2:Hid (z5K w (.slice (some ad2) n2 (c2 - 1)) (prs lb')):=by rw [HN2.out]; exact hT2
   have e1:(List.map (fun x:Rw=>(x.1,x.2.2)) la').length=n1:=HN1.out.symm;have e2:(List.map (fun x:Rw=>(x.1,x.2.2)) lb').length=n2:=HN2.out.symm;have HL1:Hid (n1=la'.length):=hl1;have HL2:Hid (n2=lb'.length):=hl2;rw [e1] at hc1 HTA ⊢;rw [e2] at hc2 HTB ⊢;clear e1 e2 hT1 hT2 hl1 hl2;have g0:wr.cell? ⟨b1,o1,none⟩=some xv:=(HW.out.cell (p:=⟨b1,o1,none⟩) hbl1).trans hx0;have g1:wr.cell? ⟨b1,o1+1,none⟩=some (.int .i64 y):=(HW.out.cell (p:=⟨b1,o1+1,none⟩) hbl1).trans hx1;have g2:wr.cell? ⟨b2,o2,none⟩=some rv:=(HW.out.cell (p:=⟨b2,o2,none⟩) hbl2).trans hr0;have g3:wr.cell? ⟨b2,o2+1,none⟩=some (.int .i64 y2):=(HW.out.cell (p:=⟨b2,o2+1,none⟩) hbl2).trans hr1;have hbr1:b1<wr.heap.size:=Nat.lt_of_lt_of_le hbl1 HW.out.size;have hbr2:b2<wr.heap.size:=Nat.lt_of_lt_of_le hbl2 HW.out.size;obtain ⟨xa,xn,xc,rfl⟩:=hix.shape;obtain ⟨ra,rn,rc,rfl⟩:=hir.shape;have hixd:z1E wr.drew (.slice xa xn xc) x:=hix.below HW.out.drew;have hird:z1E wr.drew (.slice ra rn rc) r:=hir.below HW.out.drew;have HIX:Hid (z1E w (.slice xa xn xc) x):=hix;have HIR:Hid (z1E w (.slice ra rn rc) r):=hir;have hpos1:0<n1+1:=by omega
   have hpos2:0<n2+1:=by omega
   have hone1:(1:Int)<=(n1:Int)+1:=by omega
   have hone2:(1:Int)<=(n2:Int)+1:=by omega
   clear hx0 hx1 hr0 hr1 hix hir;obtain ⟨o,HO⟩:∃ o,Hid (o=ordL x r):=⟨_,rfl⟩;go_wp2;go_region_held (fun w'=>w'.cell? ⟨b1,o1,none⟩=some (.slice xa xn xc)/\w'.cell? ⟨b1,o1+1,none⟩=some (.int .i64 y)/\w'.cell? ⟨b2,o2,none⟩=some (.slice ra rn rc)/\w'.cell? ⟨b2,o2+1,none⟩=some (.int .i64 y2)) (go_keep)
    ((go_at_call 42; refine (q3L xa xn xc y x ra rn rc y2 r _ hixd hird).mono ?_; rw [<-HO.out]; rintro e w2 ⟨rfl,hb2⟩; have q0:=q1N (p:=⟨b1,o1,none⟩) hb2 hbr1 g0; have q1:=q1N (p:=⟨b1,o1+1,none⟩) hb2 hbr1 g1; have q2:=q1N (p:=⟨b2,o2,none⟩) hb2 hbr2 g2; have q3:=q1N (p:=⟨b2,o2+1,none⟩) hb2 hbr2 g3))
   all_goals
    have HK:Hid (Below w.heap.size w w2):=z1D HW.out.drew hb2
    have S2:Hid (z1P w2 w.heap.size w2.heap.size u9 (prs done)):=(HS.out.keep' (z1D (Below.drew (Below.refl _ _)) hb2)).wide (Nat.le_refl _) (by have:=hb2.size; exact this) (Nat.le_refl _)
    have hz2':w.heap.size<=w2.heap.size:=HK.out.size
    have hdl:(prs done).length=d:=by rw [z1H,HD.out]
    clear hb2 hixd hird HS HW g0 g1 g2 g3 hbr1 hbr2
    rcases ordL_cases x r with ⟨ho,-⟩ | ⟨ho,-,-⟩ | ⟨ho,-⟩
    ·
     have HO1:Hid (ordL x r = -1):=ho;obtain rfl:o = -1:=by rw [HO.out]; exact ho
     clear ho HO;go_wp2;have S2d:z1P w2.drew w.heap.size w2.heap.size u9 (prs done):=S2.out.keep' (Below.drew (Below.refl _ _));obtain ⟨hspW,hprW,hfin⟩:=x1N (xv:=.slice xa xn xc) y S2d ⟨_,_,_,rfl⟩ hz2' (by rw [<-HD.out]; omega);go_region_law (first
      | ((refine q1L rfl (.tmp 51) (.tmp 55) 35 rfl w.heap.size 47 i0 Tryz.underlying35 hi0 hz0 hz1 hz2 u9 (prs done) (by simp [Act.eval]) hspW ⟨w2.heap.size,0,none⟩ 1 1 [(.slice xa xn xc,y)] (by simp [Act.eval]) hprW (by rw [hdl]; simp; omega) (by simp; omega) ?_; intro v3 w3 hown3 hg3 hat3)))
     all_goals
      obtain ⟨S3,B3⟩:=hfin v3 w3 x hown3 hg3
      have HK3:Hid (Below w.heap.size w w3):=HK.out.drew.trans B3
      have HS3:Hid (z1P w3 w.heap.size w3.heap.size v3 (prs (done++[(.slice xa xn xc,(x,y))]))):=S3
      have HE3:Hid (its (done++[(.slice xa xn xc,(x,y))])++mrgZ (its la') (its ((.slice ra rn rc,(r,y2)) :: lb'))=mrgZ (its A) (its B)):=by
       show _=_;rw [<-HE.out];show _=its done++mrgZ ((x,y) :: its la') ((r,y2) :: its lb');rw [mrg_lt HO1.out,x1V];simp [its]
      have HR3:Hid (j1T w (done++[(.slice xa xn xc,(x,y))])):=fun z hz=>by
       rcases List.mem_append.1 hz with h | h
       ·
        exact HRd.out z h
       ·
        simp at h; subst h; exact HIX.out
      clear S3 B3 hfin hown3 hg3 hat3 hspW hprW S2d q0 q1 q2 q3
      go_wp2
      simp only [Act.put,List.getElem_toArray,List.getElem_cons_succ,List.getElem_cons_zero,List.setIfInBounds_toArray,List.set_cons_succ,List.set_cons_zero]
      go_roundw
      case rel=>exact ⟨la',(Value.slice ra rn rc,(r,y2)) :: lb',done++[(Value.slice xa xn xc,(x,y))],HT1.out,HTB.out,HE3.out,HRa'.out,HRb.out,HR3.out,HLa'.out,HLb.out,by have h1:=HL1.out; have h2:=HL2.out; have h3:=HD.out; simp; omega,HS3.out,HK3.out⟩
      case measure=>simp [sLen]
    ·
     have HO1:Hid (ordL x r=0):=ho;obtain rfl:o=0:=by rw [HO.out]; exact ho
     clear ho HO;go_wp2;have S2d:z1P w2.drew w.heap.size w2.heap.size u9 (prs done):=S2.out.keep' (Below.drew (Below.refl _ _));go_region_law (first
      | (go_simp; go_at_call 79; (refine (meet_any _ y _ y2 _ ⟨_,_,_,rfl⟩ ⟨_,_,_,rfl⟩ hyb hyb2).mono ?_; rintro e w4 ⟨rfl,hb4⟩; obtain ⟨hspW,hprW,hfin⟩:=x1N (xv:=.slice xa xn xc) (y+y2) (S2d.keep' hb4) ⟨_,_,_,rfl⟩ (Nat.le_trans hz2' hb4.size) (by rw [<-HD.out]; omega); have hz4:=Nat.le_trans hz2' hb4.size))
      | ((refine q1L rfl (.tmp 33) (.tmp 42) 35 rfl w.heap.size 47 i0 Tryz.underlying35 hi0 hz0 hz1 hz2 u9 (prs done) (by simp [Act.eval]) hspW ⟨w4.heap.size,0,none⟩ 1 1 [(.slice xa xn xc,y+y2)] (by simp [Act.eval]) hprW (by rw [hdl]; simp; omega) (by simp; omega) ?_; intro v3 w3 hown3 hg3 hat3)))
     all_goals
      obtain ⟨S3,B3⟩:=hfin v3 w3 x hown3 hg3
      have HK3:Hid (Below w.heap.size w w3):=(z1D HK.out.drew hb4).trans B3
      have HS3:Hid (z1P w3 w.heap.size w3.heap.size v3 (prs (done++[(.slice xa xn xc,(x,y+y2))]))):=S3
      have HE3:Hid (its (done++[(.slice xa xn xc,(x,y+y2))])++mrgZ (its la') (its lb')=mrgZ (its A) (its B)):=by
       show _=_;rw [<-HE.out];show _=its done++mrgZ ((x,y) :: its la') ((r,y2) :: its lb');rw [mrg_eq HO1.out,x1V];simp [its]
      have HR3:Hid (j1T w (done++[(.slice xa xn xc,(x,y+y2))])):=fun z hz=>by
       rcases List.mem_append.1 hz with h | h
       ·
        exact HRd.out z h
       ·
        simp at h; subst h; exact HIX.out
      clear S3 B3 hfin hown3 hg3 hat3 hspW hprW S2d q0 q1 q2 q3 hb4
      go_wp2
      simp only [Act.put,List.getElem_toArray,List.getElem_cons_succ,List.getElem_cons_zero,List.setIfInBounds_toArray,List.set_cons_succ,List.set_cons_zero]
      go_roundw
      case rel=>exact ⟨la',lb',done++[(Value.slice xa xn xc,(x,y+y2))],HT1.out,HT2.out,HE3.out,HRa'.out,HRb'.out,HR3.out,HLa'.out,HLb'.out,by have h1:=HL1.out; have h2:=HL2.out; have h3:=HD.out; simp; omega,HS3.out,HK3.out⟩
      case measure=>simp [sLen]; omega
    ·
     have HO1:Hid (ordL x r=1):=ho;obtain rfl:o=1:=by rw [HO.out]; exact ho
     clear ho HO;go_wp2;have S2d:z1P w2.drew w.heap.size w2.heap.size u9 (prs done):=S2.out.keep' (Below.drew (Below.refl _ _));obtain ⟨hspW,hprW,hfin⟩:=x1N (xv:=.slice ra rn rc) y2 S2d ⟨_,_,_,rfl⟩ hz2' (by rw [<-HD.out]; omega);go_region_law (first
      | ((refine q1L rfl (.tmp 62) (.tmp 66) 35 rfl w.heap.size 47 i0 Tryz.underlying35 hi0 hz0 hz1 hz2 u9 (prs done) (by simp [Act.eval]) hspW ⟨w2.heap.size,0,none⟩ 1 1 [(.slice ra rn rc,y2)] (by simp [Act.eval]) hprW (by rw [hdl]; simp; omega) (by simp; omega) ?_; intro v3 w3 hown3 hg3 hat3)))
     all_goals
      obtain ⟨S3,B3⟩:=hfin v3 w3 r hown3 hg3
      have HK3:Hid (Below w.heap.size w w3):=HK.out.drew.trans B3
      have HS3:Hid (z1P w3 w.heap.size w3.heap.size v3 (prs (done++[(.slice ra rn rc,(r,y2))]))):=S3
      have HE3:Hid (its (done++[(.slice ra rn rc,(r,y2))])++mrgZ (its ((.slice xa xn xc,(x,y)) :: la')) (its lb')=mrgZ (its A) (its B)):=by
       show _=_;rw [<-HE.out];show _=its done++mrgZ ((x,y) :: its la') ((r,y2) :: its lb');rw [mrg_gt HO1.out,x1V];simp [its]
      have HR3:Hid (j1T w (done++[(.slice ra rn rc,(r,y2))])):=fun z hz=>by
       rcases List.mem_append.1 hz with h | h
       ·
        exact HRd.out z h
       ·
        simp at h; subst h; exact HIR.out
      clear S3 B3 hfin hown3 hg3 hat3 hspW hprW S2d q0 q1 q2 q3
      go_wp2
      simp only [Act.put,List.getElem_toArray,List.getElem_cons_succ,List.getElem_cons_zero,List.setIfInBounds_toArray,List.set_cons_succ,List.set_cons_zero]
      go_roundw
      case rel=>exact ⟨(Value.slice xa xn xc,(x,y)) :: la',lb',done++[(Value.slice ra rn rc,(r,y2))],HTA.out,HT2.out,HE3.out,HRa.out,HRb'.out,HR3.out,HLa.out,HLb'.out,by have h1:=HL1.out; have h2:=HL2.out; have h3:=HD.out; simp; omega,HS3.out,HK3.out⟩
      case measure=>simp [sLen]
theorem x2Z (a:Value) (y:Int) (w:World) (ha:∃ x n c,a = .slice x n c) :
  Calls Tryz.prog 74 #[.agg #[a,.int .i64 y]] w fun e w'=>e = .returned (.bool (y==0))/\Below w.heap.size w w':=by
 obtain ⟨xa,xn,xc,rfl⟩:=ha;go_enter Tryz.func74,Tryz.ntmps74;go_wp2;go_ret;exact ⟨rfl,z1C _⟩
theorem v3V {ps:List (Value × Int)} (hs:∀ p∈ps,∃ a n c,p.1=Value.slice a n c) {k:Nat} (hk:k<ps.length):∃ a n c,(ps.getD k (vn,0)).1=Value.slice a n c:=hs _ (by simp [List.getD,hk])
theorem k2N (v:Value) (ps:List (Value × Int)) (w:World) (h:z1Y w v ps) (hlim:ps.length<=1099511627776) :
  Calls Tryz.prog 124 #[v,.func (.func 74) #[] #[]] w fun e w'=> ∃ i:Int,e = .returned (.int .i64 i) ∧
   ((i = -1/\∀ j,j<ps.length->(ps.getD j (vn,0)).2≠0)\/∃ k:Nat,i=k/\k<ps.length/\(ps.getD k (vn,0)).2=0/\∀ j,j<k->(ps.getD j (vn,0)).2≠0)/\Below w.heap.size w w':=by
 obtain ⟨hl,hs,a,cap,rfl,hn,hc⟩:=h;by_cases h0:ps=[]
 ·
  subst h0;clear hc hs;go_enter Tryz.func124,Tryz.ntmps124;go_wp2;refine wp_loop_rounds 1 ?_;rw [rounds_succ];go_wp2;go_ret;exact ⟨-1,rfl,.inl ⟨rfl,fun j hj=>by simp at hj⟩,Below.refl _ _⟩
 ·
  obtain ⟨b,off,rfl,hb,hcell⟩:=hc h0;obtain ⟨n,hn'⟩:∃ n,n=ps.length:=⟨_,rfl⟩;have HN:Hid (n=ps.length):=hn';rw [<-hn'] at hl hcell hlim ⊢;have HS:Hid (∀ k,k<n->∃ a m c,(ps.getD k (vn,0)).1=Value.slice a m c):=fun k hk=>v3V hs (by omega);clear hn' hc hs hn h0;go_enter Tryz.func124,Tryz.ntmps124;go_wp2;go_loopw [8] (fun i wr=> ∃ k:Nat,k<=n/\i = .int .i64 k/\Hid (∀ j,j<k->(ps.getD j (vn,0)).2≠0)/\Hid (Below w.heap.size w wr)) (fun i _=>n - (intOf i).toNat)
  case atStart=>exact ⟨0,Nat.zero_le _,rfl,fun j hj=>by omega,Below.refl _ _⟩
  case round=>
   obtain ⟨k,hk,rfl,HZ,HW⟩:=hrel;by_cases hlt:k<n
   ·
    obtain ⟨c0,c1⟩:=hcell k hlt;have g0:=(HW.out.cell (p:=⟨b,off+k*2,none⟩) hb).trans c0;have g1:=(HW.out.cell (p:=⟨b,off+k*2+1,none⟩) hb).trans c1;obtain ⟨xa,xn,xc,hxv⟩:=HS.out k hlt;rw [hxv] at g0;obtain ⟨y,HY⟩:∃ y,Hid (y=(ps.getD k (vn,0)).2):=⟨_,rfl⟩;rw [<-HY.out] at g1;clear c0 c1 hxv hcell;by_cases hy:y=0
    ·
     have hyb:(y==0)=true:=by simp [hy]
     have HY0:Hid (y=0):=hy;clear hy;go_wp2_with fail;refine (x2Z _ y _ ⟨_,_,_,rfl⟩).mono ?_;rw [hyb];rintro e w2 ⟨rfl,hb2⟩;have HK:Hid (Below w.heap.size w w2):=z1D HW.out hb2;clear hb2 g0 g1 hyb;go_wp2;go_ret;exact ⟨k,rfl,.inr ⟨k,rfl,hlt,by rw [<-HY.out]; exact HY0.out,HZ.out⟩,HK.out⟩
    ·
     have hyb:(y==0)=false:=by simp [hy]
     have HY0:Hid (y≠0):=hy;clear hy;go_wp2_with fail;refine (x2Z _ y _ ⟨_,_,_,rfl⟩).mono ?_;rw [hyb];rintro e w2 ⟨rfl,hb2⟩;have HK:Hid (Below w.heap.size w w2):=z1D HW.out hb2;clear hb2 g0 g1 hyb;go_wp2;go_roundw
     case rel=>exact ⟨k+1,by omega,by go_num,fun j hj=>by
      rcases Nat.lt_succ_iff_lt_or_eq.1 hj with h | h
      ·
       exact HZ.out j h
      ·
       rw [h,<-HY.out]; exact HY0.out,HK.out⟩
     case measure=>simp [intOf]; omega
   ·
    have e:k=n:=by omega
    subst e;clear hcell;go_wp2;go_ret;exact ⟨-1,rfl,.inl ⟨rfl,HZ.out⟩,HW.out⟩
theorem j3H (w:World) (ty:TypeId) (g a m c:Nat) (hm:0<m) (hc:∀ j,j<m*2->(w.cell? ⟨g,a+j,none⟩).isSome=true) (hf:∀ j,j<m*2->w.frozen? ⟨g,a+j,none⟩=false) :
  (Builtin.clear_ #[35] ty #[.slice (some ⟨g,a,none⟩) m c]).run Tryz.prog w = .ok (.tuple #[]) (w.setCells g a (Builtin.zeroCells #[.slice none 0 0,.int .i64 0] m).toList):=by
 obtain ⟨i0,hi0,hz0,hz1,hz2⟩:=info_parts infoItem;have hl:(Builtin.zeroCells #[Value.slice none 0 0,.int .i64 0] m).toList.length=m*2:=by simp [Builtin.zeroCells]
 have h1:∀ u∈(Builtin.zeroCells #[Value.slice none 0 0,.int .i64 0] m).toList,u.oneCell'=true:=by
  intro u hu;simp [Builtin.zeroCells] at hu;obtain ⟨j,_,rfl⟩:=hu;rcases Nat.mod_two_eq_zero_or_one j with e | e <;> rw [e] <;> rfl
 have hst:=run_storeCells_cells (P:=Tryz.prog) g a (Builtin.zeroCells #[.slice none 0 0,.int .i64 0] m).toList 0 w (by rw [hl]; simpa using hc) (by rw [hl]; simpa using hf) h1;simp only [Nat.add_zero] at hst;have hv:∀ w,(zeroValue 47).run Tryz.prog w = .ok (.agg #[.slice none 0 0,.int .i64 0]) w:=fun w=>by simp [zeroValue,typeInfo,hi0,hz0]
 obtain ⟨k,rfl⟩:∃ k,m=k+1:=⟨m - 1,by omega⟩;simp [Builtin.clear_,run_underlying Tryz.underlying35,hv,hst,Value.cells]
theorem z4B (w:World) (g o:Nat) (v:Value):w.grownBy (w.setCell ⟨g,o,none⟩ v) (some g):=
 ⟨rfl,rfl,rfl,by simp,fun k _ hk=>Below.heap_setCell w ⟨g,o,none⟩ v k (fun e=>hk (congrArg some e))⟩
theorem v2H (g:Nat):∀ (vs:List Value) (o:Nat) (w:World),w.grownBy (w.setCells g o vs) (some g)
 | [],_,w=>v1U _ _
 | v :: vs,o,w=>by
  have h1:=z4B w g o v
  have h2:=v2H g vs (o+1) (w.setCell ⟨g,o,none⟩ v)
  exact z1G h1 h2
theorem z1P.beyond {lo hi g n cap:Nat} {ps:List (Value × Int)}:∀ (vs:List Value) {w:World} (o:Nat),z1P w lo hi (.slice (some ⟨g,0,none⟩) n cap) ps->ps.length*2<=o->z1P (w.setCells g o vs) lo hi (.slice (some ⟨g,0,none⟩) n cap) ps
 | [],_,_,h,_=>h
 | u :: vs,w,o,h,ho=>by
  have hn:n=ps.length:=by
   rcases h.1.2 with ⟨e,_⟩ | ⟨_,_,_,e,_⟩ <;> simp at e
   exact e.2.1
  subst hn
  have hst:=h.1.stored o u
  rw [List.set_eq_of_length_le (by rw [j1D]; omega)] at hst
  exact z1P.beyond vs (o+1) ⟨hst.1,h.2.1,h.2.2.1,Nat.le_trans h.2.2.2 hst.2.size⟩ (by omega)
def nzR (x:Rw):Bool:=decide (x.2.2≠0)
theorem nz_all {l:List Rw} (h:∀ j,j<(prs l).length->((prs l).getD j (vn,0)).2≠0):l.filter nzR=l:=by
 rw [List.filter_eq_self];intro x hx;obtain ⟨j,hj,rfl⟩:=List.getElem_of_mem hx;have:=h j (by rw [z1H]; exact hj);simp [prs,List.getD,hj] at this;simp [nzR,this]
theorem nz_start {l:List Rw} {k:Nat} (hk:k<l.length) (h0:((prs l).getD k (vn,0)).2=0) (h:∀ j,j<k->((prs l).getD j (vn,0)).2≠0):(prs l).take k=prs ((l.take (k+1)).filter nzR):=by
 have e1:(l.take k).filter nzR=l.take k:=by
  refine nz_all fun j hj=> ?_;rw [z1H,List.length_take] at hj;have:=h j (by omega);rw [z4H];simpa [List.getD,List.getElem?_take,show j<k by omega] using this
 have e2:nzR l[k]=false:=by
  simp [prs,List.getD,hk] at h0;simp [nzR,h0]
 rw [List.take_succ_eq_append_getElem hk,List.filter_append,e1,<-z4H];simp [prs,e2]
theorem z6T {l:List Rw} {b:Nat} (hb:b<l.length):(l.take (b+1)).filter nzR=(l.take b).filter nzR++(if ((prs l).getD b (vn,0)).2=0 then [] else [l[b]]):=by
 rw [List.take_succ_eq_append_getElem hb,List.filter_append];have e:((prs l).getD b (vn,0)).2=l[b].2.2:=by simp [prs,List.getD,hb]
 rw [e];by_cases h:l[b].2.2=0 <;> simp [nzR,h]
theorem j6O {α:Type} {l m:List α} {b:Nat} {d:α} (h:l.drop b=m.drop b):l.getD b d=m.getD b d:=by
 have h1:(l.drop b)[0]? = (m.drop b)[0]?:=by rw [h]
 simp only [List.getElem?_drop,Nat.add_zero] at h1;simp [List.getD,h1]
theorem x4S {α:Type} {l m:List α} {b:Nat} (h:l.drop b=m.drop b):l.drop (b+1)=m.drop (b+1):=by
 rw [<-List.drop_drop,<-List.drop_drop,h]
theorem x3I (g n cap lo hi:Nat) (l:List Rw) (w:World) (S:z1P w lo hi (.slice (some ⟨g,0,none⟩) n cap) (prs l)) (hn:n=l.length) (hg1:lo<=g) (hg2:g<hi) (hcap:n<=cap) (_hcm:cap<=9223372036854775807) (hsh:∀ p∈prs l,∃ a n c,p.1=Value.slice a n c) (hlim:n<=2097152) :
  Calls Tryz.prog 73 #[.slice (some ⟨g,0,none⟩) n cap,.func (.func 74) #[] #[]] w fun e w'=> ∃ v',e = .returned v'/\z1Y w' v' (prs (l.filter nzR))/\z1P w' lo hi v' (prs (l.filter nzR))/\Only lo hi w w':=by
 have HN:Hid (n=l.length):=hn;have HSH:Hid (∀ p∈prs l,∃ a n c,p.1=Value.slice a n c):=hsh;have HS:Hid (z1P w lo hi (.slice (some ⟨g,0,none⟩) n cap) (prs l)):=S;have hp:=S.pairs hsh;have hlp:(prs l).length<=1099511627776:=by rw [z1H,<-hn]; omega
 have hghi:=S.2.2.2;clear S hsh hn;go_enter Tryz.func73,Tryz.ntmps73;go_wp2_with fail;refine (k2N _ (prs l) _ hp hlp).mono ?_;rintro e w1 ⟨i,rfl,hcase,hb1⟩;have HK1:Hid (Below w.heap.size w w1):=hb1;clear hp hlp hb1;rcases hcase with ⟨rfl,hall⟩ | ⟨k,rfl,hkl,hk0,hkj⟩
 ·
  have HF:Hid (l.filter nzR=l):=nz_all hall;clear hall;go_wp2;go_ret;refine ⟨_,rfl,?_,?_,Only.of_below HK1.out⟩
  ·
   rw [HF.out];exact (HS.out.keep' HK1.out).pairs HSH.out
  ·
   rw [HF.out];exact HS.out.keep' HK1.out
 ·
  rw [z1H,<-HN.out] at hkl;have HST:Hid ((prs l).take k=prs ((l.take (k+1)).filter nzR)):=nz_start (by rw [<-HN.out]; exact hkl) hk0 hkj;clear hk0 hkj;have hkne:((k:Int) == -1)=false:=by simp
  go_wp2;go_loopw [5,6] (fun i j wr=> ∃ a b:Nat,a<b/\b<=n/\i = .int .i64 a/\j = .int .i64 b/\∃ cur:List (Value × Int),Hid (z1P wr lo hi (.slice (some ⟨g,0,none⟩) n cap) cur)/\Hid (cur.length=n)/\Hid (cur.take a=prs ((l.take b).filter nzR))/\Hid (cur.drop b=(prs l).drop b)/\Hid (∀ p∈cur,∃ a n c,p.1=Value.slice a n c)/\Hid (Only lo hi w wr))
   (fun _ j _=>n - (intOf j).toNat)
  case atStart=>exact ⟨k,k+1,by omega,by omega,rfl,by go_num,prs l,HS.out.keep' HK1.out,by rw [Hid,z1H,HN.out],HST.out,rfl,HSH.out,Only.of_below HK1.out⟩
  case round=>
   obtain ⟨a,b,hab,hbn,rfl,rfl,cur,HC,HCL,HCT,HCD,HCS,HO⟩:=hrel;clear HK1 HST;by_cases hlt:b<n
   ·
    have hbl:b<cur.length:=by rw [HCL.out]; exact hlt
    obtain ⟨xa,xn,xc,hxv⟩:=v3V HCS.out hbl;have c0:=HC.out.cell0 hbl;have c1:=HC.out.cell1 hbl;rw [hxv] at c0;obtain ⟨y,HY⟩:∃ y,Hid (y=(cur.getD b (vn,0)).2):=⟨_,rfl⟩;have HXV:Hid ((cur.getD b (vn,0)).1=Value.slice xa xn xc):=hxv;rw [<-HY.out] at c1;have hbl':b<l.length:=by rw [<-HN.out]; exact hlt
    have HPL:Hid ((prs l).getD b (vn,0)=(Value.slice xa xn xc,y)):=by
     show _=_;rw [<-j6O HCD.out,<-HXV.out,HY.out]
    clear hxv;by_cases hy:y=0
    ·
     have hyb:(y==0)=true:=by simp [hy]
     have HY0:Hid (y=0):=hy;clear hy;go_wp2_with fail;refine (x2Z _ y _ ⟨_,_,_,rfl⟩).mono ?_;rw [hyb];rintro e w2 ⟨rfl,hb2⟩;have hbA:Below wr.heap.size wr w2:=z1D (z1C _) hb2;have HO2:Hid (Only lo hi w w2):=HO.out.trans (Only.of_below hbA);have HC2:Hid (z1P w2 lo hi (.slice (some ⟨g,0,none⟩) n cap) cur):=HC.out.keep' hbA;have HT2:Hid (cur.take a=prs ((l.take (b+1)).filter nzR)):=by
      show _=_;rw [z6T hbl',HPL.out,if_pos HY0.out,List.append_nil,HCT.out]
     clear hb2 hbA c0 c1 hyb;go_wp2;go_roundw
     case rel=>exact ⟨a,b+1,by omega,by omega,rfl,by go_num,cur,HC2.out,HCL.out,HT2.out,x4S HCD.out,HCS.out,HO2.out⟩
     case measure=>simp [intOf]; omega
    ·
     have hyb:(y==0)=false:=by simp [hy]
     have HY0:Hid (y≠0):=hy;clear hy;go_wp2_with fail;refine (x2Z _ y _ ⟨_,_,_,rfl⟩).mono ?_;rw [hyb];rintro e w2 ⟨rfl,hb2⟩;have t0:w2.cell? ⟨wr.heap.size,0,none⟩=some (.slice xa xn xc):=q1N hb2 (by simp) (by simp [go_sem]);have t1:w2.cell? ⟨wr.heap.size,1,none⟩=some (.int .i64 y):=q1N hb2 (by simp) (by simp [go_sem]);have hbA:Below wr.heap.size wr w2:=z1D (z1C _) hb2;have HO2:Only lo hi w w2:=HO.out.trans (Only.of_below hbA);have HC2:z1P w2 lo hi (.slice (some ⟨g,0,none⟩) n cap) cur:=HC.out.keep' hbA;have hal:a<cur.length:=by rw [HCL.out]; omega
     have d0:=HC2.cell0 hal;have d1:=HC2.cell1 hal;have f0:=HC2.frozenAt (a*2);have f1:=HC2.frozenAt (a*2+1);have s1:=HC2.stored0 hal (.slice xa xn xc);have s2:=s1.1.stored1 (j:=a) (by simpa using hal) y;rw [List.set_set,v1I hal] at s2;have HC3:Hid (z1P ((w2.setCell ⟨g,a*2,none⟩ (.slice xa xn xc)).setCell ⟨g,a*2+1,none⟩ (.int .i64 y)) lo hi (.slice (some ⟨g,0,none⟩) n cap) (cur.set a (Value.slice xa xn xc,y))):=s2.1;have HO3:Hid (Only lo hi w ((w2.setCell ⟨g,a*2,none⟩ (.slice xa xn xc)).setCell ⟨g,a*2+1,none⟩ (.int .i64 y))):=(HO2.grown s1.2 (fun i e=>by simp at e; omega)).grown s2.2 (fun i e=>by simp at e; omega);have HT3:Hid ((cur.set a (Value.slice xa xn xc,y)).take (a+1)=prs ((l.take (b+1)).filter nzR)):=by
      show _=_;have e1:(l[b].1,l[b].2.2)=(Value.slice xa xn xc,y):=by rw [<-HPL.out]; simp [prs,List.getD,hbl']
      have e2:(cur.set a (Value.slice xa xn xc,y)).take (a+1)=cur.take a++[(Value.slice xa xn xc,y)]:=by
       rw [List.take_succ_eq_append_getElem (by simpa using hal),List.take_set_of_le (Nat.le_refl _)];simp
      rw [e2,z6T hbl',HPL.out,if_neg HY0.out,z2G,HCT.out,<-e1];rfl
     have HD3:Hid ((cur.set a (Value.slice xa xn xc,y)).drop (b+1)=(prs l).drop (b+1)):=by
      show _=_;rw [List.drop_set_of_lt (by omega),x4S HCD.out]
     have HS3:Hid (∀ p∈cur.set a (Value.slice xa xn xc,y),∃ a n c,p.1=Value.slice a n c):=fun p hp=>by
      rcases List.mem_or_eq_of_mem_set hp with h | h
      ·
       exact HCS.out p h
      ·
       rw [h]; exact ⟨_,_,_,rfl⟩
     have HL3:Hid ((cur.set a (Value.slice xa xn xc,y)).length=n):=by rw [Hid,List.length_set,HCL.out]
     have hanI:a<n:=by omega
     clear hb2 hbA c0 c1 hyb s1 s2 HC2 HO2 HC HO hal hbl hbl';go_wp2;go_roundw
     case rel=>exact ⟨a+1,b+1,by omega,by omega,by go_num,by go_num,cur.set a (Value.slice xa xn xc,y),HC3.out,HL3.out,HT3.out,HD3.out,HS3.out,HO3.out⟩
     case measure=>simp [intOf]; omega
   ·
    obtain rfl:b=n:=by omega
    have hacap:¬ cap=a:=by omega
    have hcl:∀ ty,(Builtin.clear_ #[35] ty #[.slice (some ⟨g,a*2,none⟩) (b - a) (cap - a)]).run Tryz.prog wr = .ok (.tuple #[]) (wr.setCells g (a*2) (Builtin.zeroCells #[.slice none 0 0,.int .i64 0] (b - a)).toList):=fun ty=>by
     refine j3H wr ty g (a*2) (b - a) (cap - a) (by omega) (fun j hj=> ?_) (fun j hj=>HC.out.frozenAt _)
     obtain ⟨q,r,hq,hr⟩:∃ q r,a*2+j=q*2+r/\r<2:=⟨(a*2+j) / 2,(a*2+j) % 2,by omega,by omega⟩
     have hqc:q<cur.length:=by rw [HCL.out]; omega
     rw [hq]
     rcases Nat.lt_succ_iff_lt_or_eq.1 hr with h | h
     ·
      obtain rfl:r=0:=by omega
      rw [Nat.add_zero,HC.out.cell0 hqc]; rfl
     ·
      subst h;rw [HC.out.cell1 hqc]; rfl
    obtain ⟨W,hW⟩:∃ W,W=wr.setCells g (a*2) (Builtin.zeroCells #[.slice none 0 0,.int .i64 0] (b - a)).toList:=⟨_,rfl⟩;rw [<-hW] at hcl;have hgW:wr.grownBy W (some g):=by rw [hW]; exact v2H _ _ _ _
    have HOW:Hid (Only lo hi w W):=HO.out.grown hgW (fun i e=>by simp at e; omega);have hal:a<=cur.length:=by rw [HCL.out]; omega
    have HPW:Hid (z1Y W (.slice (some ⟨g,0,none⟩) a cap) (cur.take a)):=by
     have hT:=HC.out.taken hal;have hl:(cur.take a).length=a:=by rw [List.length_take]; omega
     refine ⟨by rw [hl]; omega,fun p hp=>HCS.out p (List.mem_of_mem_take hp),_,cap,by rw [hl],fun h=>by simp at h,fun _=>⟨g,0,rfl,by have:=hgW.size; have:=HC.out.2.2.2; omega,fun j hj=> ?_⟩⟩;have h0:=hT.cell0 hj;have h1:=hT.cell1 hj;rw [hl] at hj;rw [Nat.zero_add,hW];exact ⟨(World.cell?_setCells_out g _ _ _ _ (fun _ _=> .inl (by show j*2<a*2; omega))).trans h0,(World.cell?_setCells_out g _ _ _ _ (fun _ _=> .inl (by show j*2+1<a*2; omega))).trans h1⟩
    have HFL:Hid (cur.take a=prs (l.filter nzR)):=by
     show _=_;rw [HCT.out,HN.out,List.take_length]
    have HSW:Hid (z1P W lo hi (.slice (some ⟨g,0,none⟩) a cap) (cur.take a)):=by
     show z1P _ _ _ _ _;rw [hW];refine (HC.out.taken hal).beyond _ _ ?_;have:(cur.take a).length=a:=by rw [List.length_take]; omega
     omega
    clear hW hgW;have han:a<=b:=by omega
    have hac:a<=cap:=by omega
    go_wp2;go_ret;refine ⟨_,rfl,?_,?_,HOW.out⟩
    ·
     rw [<-HFL.out];exact HPW.out
    ·
     rw [<-HFL.out];exact HSW.out
theorem x3J (w:World) :
  Calls Tryz.prog 73 #[.slice none 0 0,.func (.func 74) #[] #[]] w fun e w'=>e = .returned (.slice none 0 0)/\Below w.heap.size w w':=by
 have hp:z1Y w (.slice none 0 0) []:=⟨by simp,fun p hp=>by simp at hp,none,0,rfl,fun _=>rfl,fun h=>absurd rfl h⟩;go_enter Tryz.func73,Tryz.ntmps73;go_wp2_with fail;refine (k2N _ [] _ hp (by simp)).mono ?_;rintro e w1 ⟨i,rfl,hcase,hb1⟩;rcases hcase with ⟨rfl,hall⟩ | ⟨k,rfl,hkl,_⟩
 ·
  have HK1:Hid (Below w.heap.size w w1):=hb1;clear hp hb1 hall;go_wp2;go_ret;exact ⟨rfl,HK1.out⟩
 ·
  simp at hkl
theorem v2M (v:Value) (lo hi:Nat) (l:List Rw) (w:World) (S:z1P w lo hi v (prs l)) (hsh:∀ p∈prs l,∃ a n c,p.1=Value.slice a n c) (hlim:l.length<=2097152) :
  Calls Tryz.prog 73 #[v,.func (.func 74) #[] #[]] w fun e w'=> ∃ v',e = .returned v'/\z1Y w' v' (prs (l.filter nzR))/\z1P w' lo hi v' (prs (l.filter nzR))/\Only lo hi w w':=by
 rcases S.1.2 with ⟨rfl,h0⟩ | ⟨g,cap,cur,rfl,hg1,hg,hnc,hcm,_⟩
 ·
  have hl:l=[]:=List.length_eq_zero_iff.1 (by rw [<-z1H]; exact h0);subst hl;refine (x3J w).mono ?_;rintro e w1 ⟨rfl,hb1⟩;exact ⟨_,rfl,⟨by simp [prs],fun p hp=>by simp [prs] at hp,none,0,rfl,fun _=>rfl,fun h=>absurd rfl h⟩,S.keep' hb1,Only.of_below hb1⟩
 ·
  rw [z1H] at S hnc ⊢;exact x3I g l.length cap lo hi l w S rfl hg1 (S.2.1 g rfl) hnc (by have:=hcm; simp only [maxLen] at this; omega) hsh hlim
theorem v3Q (v:Value) (lo hi:Nat) (l:List Rw) (w:World) (S:z1P w lo hi v (prs l)) (hsh:∀ p∈prs l,∃ a n c,p.1=Value.slice a n c) (hlim:l.length<=2097152) :
  Calls Tryz.prog 73 #[v,.func (.func 74) #[] #[]] w fun e w'=> ∃ v',e = .returned v'/\z1Y w' v' (prs (l.filter nzR))/\Only lo hi w w':=
 (v2M v lo hi l w S hsh hlim).mono fun _ _ ⟨v',he,hp,_,ho⟩=>⟨v',he,hp,ho⟩
end Go.Proofs.YtmjaepdplbgohaaGreatDoor
namespace Go.Proofs.YtmjaepdplbgohaaGreatDoor
open Go.RowKit
def j2T (w0 w:World) (lo hi:Nat) (v:Value) (zs:List It) (k:Nat):Prop:=
 ∃ ps:List (Value × Int),ps.map (·.2)=zs.map (·.2)/\z1P w lo hi v ps/\(∀ j,j<k->j<ps.length->Own w lo hi (ps.getD j (vn,0)).1 (zs.getD j ([],0)).1) ∧
  (∀ i j b,i<j->j<k->j<ps.length->(ps.getD i (vn,0)).1.ownBlock=some b->(ps.getD j (vn,0)).1.ownBlock≠some b)/\(∀ j,k<=j->j<ps.length->z1E w0 (ps.getD j (vn,0)).1 (zs.getD j ([],0)).1)
theorem j2T.own {w0 w:World} {lo hi:Nat} {v:Value} {zs:List It} (h:j2T w0 w lo hi v zs zs.length):z1V w lo hi v zs:=by
 obtain ⟨ps,he,hs,hr,ha,_⟩:=h;have hl:=x1X he;exact ⟨ps,he,hs,fun j hj=>hr j (by omega) hj,fun i j b hij hj=>ha i j b hij (by omega) hj⟩
theorem j2T.keep {w0 w w':World} {lo hi:Nat} {v:Value} {zs:List It} {k:Nat} (h:j2T w0 w lo hi v zs k) (hb:Below hi w w'):j2T w0 w' lo hi v zs k:=by
 obtain ⟨ps,he,hs,hr,ha,hi⟩:=h;exact ⟨ps,he,hs.keep hb,fun j hj hj'=>(hr j hj hj').keep hb,ha,hi⟩
theorem j2T.hi_le {w0 w:World} {lo hi:Nat} {v:Value} {zs:List It} {k:Nat} (h:j2T w0 w lo hi v zs k):hi<=w.heap.size:=by
 obtain ⟨ps,he,hs,_⟩:=h;exact hs.2.2.2
theorem j2T.row {w0 w:World} {lo hi:Nat} {g n cap:Nat} {zs:List It} {k:Nat} (h:j2T w0 w lo hi (.slice (some ⟨g,0,none⟩) n cap) zs k) (hk:k<zs.length):∃ rv,w.cell? ⟨g,k*2,none⟩=some rv/\z1E w0 rv (zs.getD k ([],0)).1:=by
 obtain ⟨ps,he,hs,_,_,hi⟩:=h;have hl:=x1X he;exact ⟨_,hs.cell0 (by omega),hi k (Nat.le_refl _) (by omega)⟩
theorem j2T.frozenAt {w0 w:World} {lo hi:Nat} {g n cap:Nat} {zs:List It} {k:Nat} (h:j2T w0 w lo hi (.slice (some ⟨g,0,none⟩) n cap) zs k) (j:Nat):w.frozen? ⟨g,j,none⟩=false:=by
 obtain ⟨ps,he,hs,_⟩:=h;exact hs.frozenAt j
theorem j2T.step {w0 w:World} {lo hi hi':Nat} {g n cap:Nat} {zs:List It} {k:Nat} (h:j2T w0 w lo hi (.slice (some ⟨g,0,none⟩) n cap) zs k) (hk:k<zs.length) {rv:Value} (hrow:Own w lo hi' rv (zs.getD k ([],0)).1)
  (h1:hi<=hi') (h2:hi'<=w.heap.size) (hf:∀ b,rv.ownBlock=some b->hi<=b) :
  j2T w0 (w.setCell ⟨g,k*2,none⟩ rv) lo hi' (.slice (some ⟨g,0,none⟩) n cap) zs (k+1):=by
 obtain ⟨ps,he,hs,hr,ha,hi0⟩:=h;have hl:=x1X he;have hk':k<ps.length:=by omega
 have s1:=hs.stored0 hk' rv;have hg:=s1.2;have hne:∀ {lo' hi':Nat} {v:Value} {us:List Int},Own w lo' hi' v us->v.ownBlock=none\/v.ownBlock≠some g:=fun h=>j1G hs h;refine ⟨ps.set k (rv,(ps.getD k (vn,0)).2),?_,s1.1.wide (Nat.le_refl _) h1 (Nat.le_trans h2 hg.size),fun j hj hj'=> ?_,fun i j b hij hj hj' hb=> ?_,fun j hj hj'=> ?_⟩
 ·
  rw [List.map_set,<-he];apply List.ext_getElem?;intro j;by_cases hjk:j=k
  ·
   subst hjk;rw [List.getElem?_set_self (by simpa using hk'),List.getElem?_map,List.getElem?_eq_getElem hk'];simp [List.getD,hk']
  ·
   rw [List.getElem?_set_ne (by omega)]
 ·
  have hjl:j<ps.length:=by simpa using hj'
  by_cases hjk:j=k
  ·
   subst hjk;rw [v1I hk'];exact hrow.keptB hg (hne hrow)
  ·
   rw [k1J hjk];have:=hr j (by omega) hjl;exact (this.keptB hg (hne this)).wide (Nat.le_refl _) h1 (Nat.le_trans h2 hg.size)
 ·
  have hjl:j<ps.length:=by simpa using hj'
  rw [k1J (by omega)] at hb;by_cases hjk:j=k
  ·
   subst hjk;rw [v1I hk'];intro hb';have h3:=hf b hb';have h4:=(hr i (by omega) (by omega)).2.1 b hb;omega
  ·
   rw [k1J hjk];exact ha i j b hij (by omega) hjl hb
 ·
  have hjl:j<ps.length:=by simpa using hj'
  rw [k1J (by omega)];exact hi0 j (by omega) hjl
theorem k2V (v:Value) (zs:List It) (w:World) (h:z1I w v zs) (hlim:zs.length<=1099511627776) (hrl:∀ j,j<zs.length->(zs.getD j ([],0)).1.length<=8796093022208) :
  Calls Tryz.prog 80 #[v] w fun e w'=> ∃ v',e = .returned v'/\z1V w' w.heap.size w'.heap.size v' zs/\Below w.heap.size w w':=by
 obtain ⟨qs,hq,he,hr⟩:=h.pairs;have hql:=x1X he;go_enter Tryz.func80,Tryz.ntmps80;go_wp2_with fail;refine (v3S v qs _ hq (by omega)).mono ?_;rintro e w1 ⟨v1,rfl,S1,hb1⟩;by_cases hne:0<zs.length
 ·
  obtain ⟨g,cap,rfl,hg1,hg2,hgc,hgm⟩:=S1.shape (by omega);have P1:j2T w w1 w.heap.size w1.heap.size (.slice (some ⟨g,0,none⟩) zs.length cap) zs 0:=by
   refine ⟨qs,he,by rw [<-hql]; exact S1,fun j hj=>by omega,fun i j b _ hj=>by omega,fun j _ hj=>hr j (by omega)⟩
  rw [hql] at hgc ⊢;clear S1 hr hq he hql qs h hg2;obtain ⟨n,hn⟩:∃ n,n=zs.length:=⟨_,rfl⟩;have HN:Hid (n=zs.length):=hn;rw [<-hn] at P1 hne hlim hgc hrl ⊢;clear hn;go_wp2;go_loopw [9] (fun i wr=> ∃ k:Nat,k<=n/\i = .int .i64 k/\Hid (j2T w wr w.heap.size wr.heap.size (.slice (some ⟨g,0,none⟩) n cap) zs k)/\Hid (Below w.heap.size w wr)) (fun i _=>n - (intOf i).toNat)
  case atStart=>exact ⟨0,Nat.zero_le _,rfl,P1,hb1⟩
  case round=>
   obtain ⟨k,hk,rfl,HP,HW⟩:=hrel;clear P1 hb1;by_cases hlt:k<n
   ·
    obtain ⟨rv,hrv,hix⟩:=HP.out.row (by rw [<-HN.out]; exact hlt);have hxl:=hrl k hlt;have hix1:=hix.below HW.out;obtain ⟨ra,rn,rc,rfl⟩:=hix.shape;clear hix hrl;go_wp2_with fail;refine (j2K _ _ _ hix1 hxl).mono ?_;rintro e w2 ⟨rv2,rfl,O2,hb2⟩;have P2:=HP.out.keep (hb2.mono HP.out.hi_le);have hszr:=HW.out.size;have R:Hid (j2T w (w2.setCell ⟨g,k*2,none⟩ rv2) w.heap.size w2.heap.size (.slice (some ⟨g,0,none⟩) n cap) zs (k+1)):=
     P2.step (by rw [<-HN.out]; exact hlt) (O2.wide hszr (Nat.le_refl _) (Nat.le_refl _)) hb2.size (Nat.le_refl _) (fun b hb=>(O2.1.lt b hb).1)
    obtain ⟨u,hcu,-⟩:=P2.row (by rw [<-HN.out]; exact hlt);have hfz:=P2.frozenAt (k*2);have HB2:Hid (Below w.heap.size w (w2.setCell ⟨g,k*2,none⟩ rv2)):=(z1D HW.out hb2).setCell hg1 _;have hone:∃ a n c,rv2 = .slice a n c:=O2.ints.shape;obtain ⟨ra2,rn2,rc2,rfl⟩:=hone;clear HP HW P2 O2 hb2 hix1 hrv hxl;go_wp2;go_roundw
    case rel=>exact ⟨k+1,by omega,by go_num,by show j2T _ _ _ _ _ _ _; simpa using R.out,HB2.out⟩
    case measure=>simp [intOf]; omega
   ·
    have e:k=n:=by omega
    subst e;clear hrl;go_wp2;go_ret;refine ⟨_,rfl,?_,HW.out⟩;have:=HP.out;rw [HN.out] at this ⊢;exact this.own
 ·
  have hz:zs=[]:=List.length_eq_zero_iff.1 (by omega);have hqn:qs=[]:=List.length_eq_zero_iff.1 (by omega);subst hz hqn;have Z:z1V w1 w.heap.size w1.heap.size v1 []:=⟨[],rfl,S1,fun j hj=>by simp at hj,fun i j b _ hj=>by simp at hj⟩;have hsh:∃ a c,v1 = .slice a 0 c:=by
   rcases S1.1.2 with ⟨rfl,_⟩ | ⟨g,cap,cur,rfl,_⟩ <;> exact ⟨_,_,rfl⟩
  obtain ⟨a1,c1,rfl⟩:=hsh;clear S1 hr hq he hql hrl h;go_wp2;refine wp_loop_rounds 1 ?_;rw [rounds_succ];go_wp2;go_ret;exact ⟨_,rfl,Z,hb1⟩
theorem x3U {y:Int} (h:wB y=true):y≠0/\-10000<=y/\y<=10000:=by unfold wB at h; exact of_decide_eq_true h
theorem take_get {zs:List It} {k:Nat} (hk:k<zs.length):zs.take (k+1)=zs.take k++[((zs.getD k ([],0)).1,(zs.getD k ([],0)).2)]:=by
 have e:zs.getD k ([],0)=zs[k]:=by simp [List.getD,hk]
 rw [e,List.take_succ_eq_append_getElem hk]
theorem k3E (v:Value) (zs:List It) (w:World) (h:z1I w v zs) (hlim:zs.length<=1048576) (hrow:∀ k,k<zs.length->(zs.getD k ([],0)).1.length<=8796093022208) :
  Calls Tryz.prog 62 #[v] w fun e w'=> ∃ v',e = .returned v'/\z1V w' w.heap.size w'.heap.size v' zs/\Below w.heap.size w w':=by
 obtain ⟨i0,hi,hz0,hz1,hz2⟩:=info_parts infoItem;rcases h.cases with ⟨a,cap,rfl,rfl⟩ | ⟨b,off,cap,hpos,hlim',rfl,hbw,hc⟩
 ·
  clear h hrow;go_enter Tryz.func62,Tryz.ntmps62;go_wp2;refine wp_loop_rounds 1 ?_;rw [rounds_succ];go_wp2;go_ret;exact ⟨_,rfl,z1T w,z1C _⟩
 ·
  clear h hlim';obtain ⟨n,hn⟩:∃ n,n=zs.length:=⟨_,rfl⟩;have HN:Hid (n=zs.length):=hn;rw [<-hn] at hpos hlim hc hrow ⊢;clear hn;go_enter Tryz.func62,Tryz.ntmps62;go_wp2;go_loopw [3,4] (fun s i wr=> ∃ (k:Nat),k<=n/\i = .int .i64 k/\Hid (z1V wr w.heap.size wr.heap.size s (zs.take k))/\Hid (Below w.heap.size w wr)) (fun _ i _=>n - (intOf i).toNat)
  case atStart=>exact ⟨0,Nat.zero_le _,rfl,z1T w,z1C _⟩
  case round=>
   obtain ⟨k,hk,rfl,HZ,HW⟩:=hrel;by_cases hlt:k<n
   ·
    have hlt':k<zs.length:=by rw [<-HN.out]; exact hlt
    have HB:=HW.out;obtain ⟨rv,hrv0,hwt0,hix0⟩:=hc k hlt;have hrv:=(HB.cell (p:=⟨b,off+k*2,none⟩) hbw).trans hrv0;have hwt:=(HB.cell (p:=⟨b,off+k*2+1,none⟩) hbw).trans hwt0;have hix:=hix0.below HB;have hbr:b<wr.heap.size:=Nat.lt_of_lt_of_le hbw HB.size;have hxl:=hrow k hlt;have hpl:(zs.take k).length<=1048576:=by rw [List.length_take]; omega
    have HTT:Hid (zs.take (k+1)=zs.take k++[((zs.getD k ([],0)).1,(zs.getD k ([],0)).2)]):=take_get hlt';have Z5:=HZ.out;have Z5d:z1V wr.drew w.heap.size wr.drew.heap.size u3 (zs.take k):=Z5.keep' (Below.drew (Below.refl _ _));have hixd:z1E wr.drew rv (zs.getD k ([],0)).1:=hix.below (Below.drew (Below.refl _ _));have hwtd:wr.drew.cell? ⟨b,off+k*2+1,none⟩=some (.int .i64 (zs.getD k ([],0)).2):=hwt;have hszw:w.heap.size<=wr.drew.heap.size:=HB.size;have HBd:Below w.heap.size w wr.drew:=HB.drew;clear hrv0 hwt0 hix0 hc hrow hix Z5 HZ HW HB;obtain ⟨x,HX⟩:∃ x,Hid (x=(zs.getD k ([],0)).1):=⟨_,rfl⟩;obtain ⟨y,HY⟩:∃ y,Hid (y=(zs.getD k ([],0)).2):=⟨_,rfl⟩;rw [<-HX.out] at hixd hxl HTT;rw [<-HY.out] at hwt hwtd HTT;obtain ⟨ra,rn,rc,rfl⟩:=hixd.shape;go_wp2;go_region_law (first
     | (go_simp; go_at_call 108; (refine (z2J _ x _ hixd hxl).mono ?_; rintro e w2 ⟨rv2,rfl,O2,hk2⟩; obtain ⟨ra2,rn2,rc2,rfl⟩:=O2.ints.shape; have hwt2:=q1N (p:=⟨b,off+k*2+1,none⟩) hk2 hbr hwtd; have hszk:=hk2.size; obtain ⟨ps,hpsl,hspW,hprW,hfin⟩:=(Z5d.keep' hk2).ready y O2 (Nat.le_refl _) (by omega) (by omega) (by omega); have hpl2:ps.length<=1048576:=(by omega)))
     | ((refine q2N rfl (.tmp 12) (.tmp 25) 35 rfl w.heap.size 47 i0 Tryz.underlying35 hi hz0 hz1 hz2 u3 ps (by simp [Act.eval]) hspW ⟨w2.heap.size,0,none⟩ 1 1 [(.slice ra2 rn2 rc2,y)] (by simp [Act.eval]) rfl (q5L _ _ _ _) (fun p hp=>by simp at hp; subst hp; exact ⟨_,_,_,rfl⟩) (by simp; omega) (by simp; omega) ?_; intro v3 w3 hown3 hg3)))
    all_goals
     obtain ⟨Z3,B3⟩:=hfin v3 w3 hown3 hg3
     have HK:Hid (Below w.heap.size w w3):=HBd.trans ((hk2.mono hszw).trans B3)
     clear hfin hown3 hg3 hspW hprW B3 hk2 HBd Z5d hixd O2
     go_wp2
     go_roundw
     case rel=>exact ⟨k+1,by omega,by go_num,by show z1V _ _ _ _ _; rw [HTT.out]; exact Z3,HK.out⟩
     case measure=>simp [intOf]; omega
   ·
    have e:k=n:=by omega
    subst e;clear hc hrow;go_wp2;go_ret;refine ⟨_,rfl,?_,HW.out⟩;have:=HZ.out;rw [HN.out,List.take_length] at this;exact this
theorem z3B {B C:Int} (hB0:0<=B) (hC0:0<=C):∀ (b:List It) {a:List It} {k:Int},0<=k->(∀ p∈a,-(B+k*C)<=p.2/\p.2<=B+k*C)->(∀ p∈b,-C<=p.2/\p.2<=C)->∀ x∈j1L a b,-(B+(k+b.length)*C)<=x.2/\x.2<=B+(k+b.length)*C
 | [],a,k,_,ha,_,x,hx=>by simpa [j1L] using ha x hx
 | p :: b,a,k,hk,ha,hb,x,hx=>by
  rw [z2T] at hx
  have hkC:0<=k*C:=Int.mul_nonneg hk hC0
  have h1:=j3I (r:=p.1) (hb p (by simp)) (show 0<=B+k*C by omega) hC0 ha
  have h2:=z3B hB0 hC0 b (k:=k+1) (by omega) (fun q hq=>by have:=h1 q hq; rw [Int.add_mul,Int.one_mul]; omega) (fun q hq=>hb q (by simp [hq])) x hx
  have e:(k+1+(b.length:Int))=k+((p :: b).length:Int):=by simp; omega
  rw [e] at h2
  exact h2
theorem add_len:∀ (b a:List It),(j1L a b).length<=a.length+b.length
 | [],a=>by simp [j1L]
 | p :: b,a=>by
  rw [z2T]
  have h1:=add_len b (putZ a p.1 p.2)
  have h2:=z3I p.1 p.2 a
  simp; omega
theorem z3A {x:It}:∀ {b a:List It},x∈j1L a b->(∃ p∈a,x.1=p.1)\/∃ p∈b,x.1=p.1
 | [],a,h=> .inl ⟨x,h,rfl⟩
 | p :: b,a,h=>by
  rw [z2T] at h
  rcases z3A h with ⟨q,hq,e⟩ | ⟨q,hq,e⟩
  ·
   rcases z3N hq with h | h
   ·
    exact .inl ⟨q,h,e⟩
   ·
    exact .inr ⟨p,by simp,by rw [e,h]⟩
  ·
   exact .inr ⟨q,by simp [hq],e⟩
theorem add_take {a b:List It} {k:Nat} (hk:k<b.length):j1L a (b.take (k+1))=putZ (j1L a (b.take k)) (b.getD k ([],0)).1 (b.getD k ([],0)).2:=by
 rw [List.take_succ_eq_append_getElem hk,x3Q];simp [List.getD,hk]
def v5Y (zs:List It):Prop:=zs.length<=1048576/\(∀ k,k<zs.length->(zs.getD k ([],0)).1.length<=8796093022208)/\∀ p∈zs,-2199023255552<=p.2/\p.2<=2199023255552
theorem x1O {zs:List It} {k:Nat} (hk:k<zs.length):zs.getD k ([],0)∈zs:=by simp [List.getD,hk]
theorem x5Q {a b:List It} (ha:v5Y a) (hb:v5Y b) (k:Nat):∀ j,j<(j1L a (b.take k)).length->-4611686018427387904<=((j1L a (b.take k)).getD j ([],0)).2/\((j1L a (b.take k)).getD j ([],0)).2<=4611686018427387903:=by
 intro j hj;have h1:=z3B (B:=2199023255552) (C:=2199023255552) (by omega) (by omega) (b.take k) (a:=a) (k:=0) (by omega) (fun p hp=>by have:=ha.2.2 p hp; omega) (fun p hp=>hb.2.2 p (List.mem_of_mem_take hp)) _ (x1O hj);have h2:((b.take k).length:Int)<=1048576:=by
  have:=hb.1;have h3:(b.take k).length<=b.length:=by rw [List.length_take]; omega
  omega
 omega
theorem mild_len {a b:List It} (ha:v5Y a) (hb:v5Y b) (k:Nat):(j1L a (b.take k)).length<=2097152:=by
 have h1:=add_len (b.take k) a;have h3:(b.take k).length<=b.length:=by rw [List.length_take]; omega
 have:=ha.1;have:=hb.1;omega
theorem q6T (v v2:Value) (a b:List It) (w:World) (h:z1I w v a) (h2:z1I w v2 b) (ha:v5Y a) (hb:v5Y b) :
  Calls Tryz.prog 112 #[v,v2] w fun e w'=> ∃ v',e = .returned v'/\z1V w' w.heap.size w'.heap.size v' (j1L a b)/\Below w.heap.size w w':=by
 go_enter Tryz.func112,Tryz.ntmps112;go_wp2_with fail;refine (k3E v a _ h ha.1 ha.2.1).mono ?_;rintro e w1 ⟨v1,rfl,Z1,hb1⟩;have H1:Hid (z1V w1 w.heap.size w1.heap.size v1 a):=Z1;have HB1:Hid (Below w.heap.size w w1):=hb1;have HMA:Hid (v5Y a):=ha;have HMB:Hid (v5Y b):=hb;rcases h2.cases with ⟨ad,cap,rfl,rfl⟩ | ⟨b0,off,cap,hpos,hlim',rfl,hbw,hc⟩
 ·
  clear h h2 ha hb Z1 hb1;go_wp2;refine wp_loop_rounds 1 ?_;rw [rounds_succ];go_wp2;go_ret;exact ⟨_,rfl,by simpa [j1L] using H1.out,HB1.out⟩
 ·
  clear h h2 ha hb Z1 hb1 hlim';obtain ⟨n,hn⟩:∃ n,n=b.length:=⟨_,rfl⟩;have HN:Hid (n=b.length):=hn;have hlim:n<=1048576:=by rw [hn]; exact HMB.out.1
  rw [<-hn] at hpos hc ⊢;clear hn;go_wp2;go_loopw [5,6] (fun s i wr=> ∃ (k:Nat),k<=n/\i = .int .i64 k/\Hid (z1V wr w.heap.size wr.heap.size s (j1L a (b.take k)))/\Hid (Below w.heap.size w wr)) (fun _ i _=>n - (intOf i).toNat)
  case atStart=>exact ⟨0,Nat.zero_le _,rfl,H1.out,HB1.out⟩
  case round=>
   obtain ⟨k,hk,rfl,HZ,HW⟩:=hrel;clear H1 HB1;by_cases hlt:k<n
   ·
    have hlt':k<b.length:=by rw [<-HN.out]; exact hlt
    have HB:=HW.out;obtain ⟨rv,hrv0,hwt0,hix0⟩:=hc k hlt;have hrv:=(HB.cell (p:=⟨b0,off+k*2,none⟩) hbw).trans hrv0;have hwt:=(HB.cell (p:=⟨b0,off+k*2+1,none⟩) hbw).trans hwt0;have hix:=hix0.below HB;have HTT:Hid (j1L a (b.take (k+1))=putZ (j1L a (b.take k)) (b.getD k ([],0)).1 (b.getD k ([],0)).2):=add_take hlt';have hxl:=HMB.out.2.1 k hlt';have hyw:=HMB.out.2.2 _ (x1O hlt');have hbd:=x5Q HMA.out HMB.out k;have hln:=mild_len HMA.out HMB.out k;have Z5d:z1V wr.drew w.heap.size wr.drew.heap.size u5 (j1L a (b.take k)):=HZ.out.keep' (Below.drew (Below.refl _ _));have hixd:z1E wr.drew rv (b.getD k ([],0)).1:=hix.below (Below.drew (Below.refl _ _));have hwtd:wr.drew.cell? ⟨b0,off+k*2+1,none⟩=some (.int .i64 (b.getD k ([],0)).2):=hwt;have hrvd:wr.drew.cell? ⟨b0,off+k*2,none⟩=some rv:=hrv;have hszw:w.heap.size<=wr.drew.heap.size:=HB.size;have HBd:Hid (Below w.heap.size w wr.drew):=HB.drew;clear hrv0 hwt0 hix0 hc hix HZ HW HB;obtain ⟨x,HX⟩:∃ x,Hid (x=(b.getD k ([],0)).1):=⟨_,rfl⟩;obtain ⟨y,HY⟩:∃ y,Hid (y=(b.getD k ([],0)).2):=⟨_,rfl⟩;obtain ⟨zz,HZZ⟩:∃ zz,Hid (zz=j1L a (b.take k)):=⟨_,rfl⟩;rw [<-HX.out] at hixd hxl HTT;rw [<-HY.out] at hwt hwtd HTT hyw;rw [<-HZZ.out] at Z5d hbd hln HTT;obtain ⟨ra,rn,rc,rfl⟩:=hixd.shape;go_wp2;go_region_law (first
     | (go_simp; go_at_call 98; (refine (k1Q _ w.heap.size wr.drew.heap.size zz _ x y _ Z5d hszw hixd (by omega) hxl hbd (by omega)).mono ?_; rintro e w2 ⟨v2,rfl,Z2,O2⟩)))
    all_goals
     have HK:Hid (Below w.heap.size w w2):=O2.below HBd.out (Nat.le_refl _) hszw
     have R2:Hid (z1V w2 w.heap.size w2.heap.size v2 (j1L a (b.take (k+1)))):=by rw [HTT.out]; exact Z2
     clear O2 Z2 Z5d hixd hbd
     go_wp2
     go_roundw
     case rel=>exact ⟨k+1,by omega,by go_num,R2.out,HK.out⟩
     case measure=>simp [intOf]; omega
   ·
    have e:k=n:=by omega
    subst e;clear hc;go_wp2;go_ret;refine ⟨_,rfl,?_,HW.out⟩;have:=HZ.out;rw [HN.out,List.take_length] at this;exact this
def j2O (a b:List It):Bool:=q1G a&&q1G b&&q1G (j1L a b)
def v1M (a b:List It):List It:=if j2O a b then j1L a b else []
theorem k2B {zs:List It} (h:q1G zs=true):v5Y zs:=by
 refine ⟨by have:=v1B h; omega,fun k hk=>by have:=k1Z (j1S h hk).1; omega,fun p hp=> ?_⟩;obtain ⟨j,hj,rfl⟩:=j1J (d:=([],0)) hp;have:=(x3U (j1S h hj).2).2;omega
theorem k1H (v:Value) (zs:List It) (lo hi:Nat) (w:World) (h:z1V w lo hi v zs) (hlo:lo<=w.heap.size) :
  Calls Tryz.prog 61 #[v] w fun e w'=> ∃ v',e = .returned (.tuple #[v',.bool (q1G zs)])/\z1V w' lo w'.heap.size v' (if q1G zs then zs else [])/\Below w.heap.size w w':=by
 cases hz:q1G zs with
 | false=>
  have hI:=h.items;go_enter Tryz.func61,Tryz.ntmps61;go_wp2_with fail;refine (z1M v zs _ hI).mono ?_;rw [hz];rintro e w1 ⟨rfl,hd1⟩;have HK:Hid (Below w.heap.size w w1):=hd1.below;clear h hI hd1;go_wp2;go_ret2;exact ⟨_,rfl,by simpa using (z1T w1).wide (Nat.le_trans hlo HK.out.size) (Nat.le_refl _) (Nat.le_refl _),z1D HK.out (z1C _)⟩
 | true=>
  have hI:=h.items;go_enter Tryz.func61,Tryz.ntmps61;go_wp2_with fail;refine (z1M v zs _ hI).mono ?_;rw [hz];rintro e w1 ⟨rfl,hd1⟩;have HK:Hid (Below w.heap.size w w1):=hd1.below;have R:Hid (z1V w1 lo w1.heap.size v zs):=(h.keep' HK.out).wide (Nat.le_refl _) (by have:=h.hi_le; have:=HK.out.size; omega) (Nat.le_refl _);clear h hI hd1;go_wp2;go_ret2;exact ⟨_,rfl,by simpa using R.out,HK.out⟩
theorem j4A (v v2:Value) (a b:List It) (w:World) (h:z1I w v a) (h2:z1I w v2 b) :
  Calls Tryz.prog 66 #[v,v2] w fun e w'=> ∃ v',e = .returned (.tuple #[v',.bool (j2O a b)])/\z1V w' w.heap.size w'.heap.size v' (v1M a b)/\Below w.heap.size w w':=by
 cases ha:q1G a with
 | false=>
  have e0:j2O a b=false:=by simp [j2O,ha]
  have e1:v1M a b=[]:=by simp [v1M,e0]
  rw [e0,e1];go_enter Tryz.func66,Tryz.ntmps66;go_wp2_with fail;refine (z1M v a _ h).mono ?_;rw [ha];rintro e w1 ⟨rfl,hd1⟩;have HK:Hid (Below w.heap.size w w1):=hd1.below;clear h h2 hd1 e0 e1;go_wp2;go_ret2;exact ⟨_,rfl,(z1T w1).wide HK.out.size (Nat.le_refl _) (Nat.le_refl _),z1D HK.out (z1C _)⟩
 | true=>
  cases hb:q1G b with
  | false=>
   have e0:j2O a b=false:=by simp [j2O,hb]
   have e1:v1M a b=[]:=by simp [v1M,e0]
   rw [e0,e1];go_enter Tryz.func66,Tryz.ntmps66;go_wp2_with fail;refine (z1M v a _ h).mono ?_;rw [ha];rintro e w1 ⟨rfl,hd1⟩;go_wp2_with fail;refine (z1M v2 b _ (h2.below hd1.below)).mono ?_;rw [hb];rintro e w2 ⟨rfl,hd2⟩;have HK:Hid (Below w.heap.size w w2):=z1D hd1.below hd2.below;clear h h2 hd1 hd2 e0 e1;go_wp2;go_ret2;exact ⟨_,rfl,(z1T w2).wide HK.out.size (Nat.le_refl _) (Nat.le_refl _),z1D HK.out (z1C _)⟩
  | true=>
   have e0:j2O a b=q1G (j1L a b):=by simp [j2O,ha,hb]
   have e1:v1M a b=if q1G (j1L a b) then j1L a b else []:=by simp [v1M,e0]
   rw [e0,e1];obtain ⟨os,HO⟩:∃ os,Hid (os=if q1G (j1L a b) then j1L a b else []):=⟨_,rfl⟩;obtain ⟨c,HC⟩:∃ c,Hid (c=q1G (j1L a b)):=⟨_,rfl⟩;rw [<-HO.out,<-HC.out];go_enter Tryz.func66,Tryz.ntmps66;go_wp2_with fail;refine (z1M v a _ h).mono ?_;rw [ha];rintro e w1 ⟨rfl,hd1⟩;go_wp2_with fail;refine (z1M v2 b _ (h2.below hd1.below)).mono ?_;rw [hb];rintro e w2 ⟨rfl,hd2⟩;have hk2:=z1D hd1.below hd2.below;go_wp2_with fail;refine (q6T v v2 a b _ (h.below hk2) (h2.below hk2) (k2B ha) (k2B hb)).mono ?_;rintro e w3 ⟨v3,rfl,Z3,hb3⟩;have hk3:=z1D hk2 hb3;have z2:=hk2.size;clear h h2 hd1 hd2 e0 e1;go_wp2_with fail;refine (k1H v3 (j1L a b) _ _ _ Z3 hb3.size).mono ?_;rw [<-HO.out,<-HC.out];rintro e w4 ⟨v4,rfl,Z4,hb4⟩;have HK:Hid (Below w.heap.size w w4):=z1D hk3 hb4;have R:Hid (z1V w4 w.heap.size w4.heap.size v4 os):=Z4.wide z2 (Nat.le_refl _) (Nat.le_refl _);clear Z3 Z4 hb3 hb4 hk2 hk3;go_wp2;go_ret2;exact ⟨_,rfl,R.out,HK.out⟩
def q1Y (w:World) (v:Value) (zs:List It):Prop:=∃ l:List Rw,zs=its l/\z5K w v (prs l)/\j1T w l
theorem q1Y.below {w w':World} {v:Value} {zs:List It} (h:q1Y w v zs) (hb:Below w.heap.size w w'):q1Y w' v zs:=by
 obtain ⟨l,e,t,r⟩:=h;exact ⟨l,e,t.below hb,r.below hb⟩
theorem q1Y.items {w:World} {v:Value} {zs:List It} (h:q1Y w v zs):z1I w v zs:=by
 obtain ⟨l,rfl,t,r⟩:=h;exact t.1.itemsOf r
theorem z1V.tail {w:World} {lo hi:Nat} {v:Value} {zs:List It} (h:z1V w lo hi v zs):q1Y w v zs:=by
 obtain ⟨l,hl,S,R,_⟩:=h.opened;have hr:j1T w l:=fun x hx=>(R x hx).ints;refine ⟨l,hl,⟨S.pairs hr.shape,?_⟩,hr⟩;rcases S.1.2 with ⟨rfl,h0⟩ | ⟨g,cap,cur,rfl,_,_,hnc,hcm,_⟩
 ·
  exact ⟨none,0,by rw [h0],by omega,by omega⟩
 ·
  exact ⟨_,cap,rfl,hnc,by have:=hcm; simp only [maxLen] at this; omega⟩
theorem k3I (l:List Rw):its (l.filter nzR)=(its l).filter fun p=>decide (p.2≠0):=by
 unfold its nzR;rw [List.filter_map];rfl
theorem low_of {l:List Rw} (h:v5Y (its l)):Low l:=fun x hx=>by
 have:=h.2.2 x.2 (List.mem_map.2 ⟨x,hx,rfl⟩)
 omega
theorem k3V (v v2:Value) (a b:List It) (w:World) (h:q1Y w v a) (h2:q1Y w v2 b) (hsa:Srt a) (hna:Nz a) (hsb:Srt b) (ma:v5Y a) (mb:v5Y b) :
  Calls Tryz.prog 34 #[v,v2] w fun e w'=> ∃ v',e = .returned v'/\z1V w' w.heap.size w'.heap.size v' (j1L a b)/\Below w.heap.size w w':=by
 obtain ⟨la,ea,ta,ra⟩:=h;obtain ⟨lb,eb,tb,rb⟩:=h2;have HADD:Hid ((mrgZ (its la) (its lb)).filter (fun p=>decide (p.2≠0))=j1L a b):=by
  show _=_;rw [<-ea,<-eb];exact mrg_add hsa hna hsb
 have hrows:∀ k,k<(j1L a b).length->((j1L a b).getD k ([],0)).1.length<=8796093022208:=fun k hk=>by
  rcases z3A (x1O hk) with ⟨p,hp,e⟩ | ⟨p,hp,e⟩
  ·
   obtain ⟨j,hj,e'⟩:=j1J (d:=([],0)) hp;have:=ma.2.1 j hj;rw [e,<-e']; omega
  ·
   obtain ⟨j,hj,e'⟩:=j1J (d:=([],0)) hp;have:=mb.2.1 j hj;rw [e,<-e']; omega
 have hlen:(j1L a b).length<=2097152:=by
  have h1:=add_len b a;have h2:=ma.1;have h3:=mb.1;omega
 have hla:la.length<=1048576:=by have:=ma.1; rw [ea,q1E] at this; exact this
 have hlb:lb.length<=1048576:=by have:=mb.1; rw [eb,q1E] at this; exact this
 have lowa:=low_of (l:=la) (by rw [<-ea]; exact ma);have lowb:=low_of (l:=lb) (by rw [<-eb]; exact mb);have HMLEN:Hid ((mrgZ (its la) (its lb)).length<=2097152):=by
  have h1:=mrg_len (its la) (its lb);rw [q1E,q1E] at h1;show _<=_;omega
 clear hsa hna hsb ma mb ea eb;go_enter Tryz.func34,Tryz.ntmps34;go_wp2_with fail;refine (q6B v v2 la lb _ ta tb ra rb lowa lowb hla hlb).mono ?_;rintro e w1 ⟨v1,rfl,l,hl,hr,S1,hb1⟩;have HL:Hid (its l=mrgZ (its la) (its lb)):=hl;have hll:l.length<=2097152:=by rw [<-q1E,hl]; exact HMLEN.out
 have z1:=hb1.size;clear ta tb ra rb lowa lowb hl;go_wp2_with fail;refine (v3Q v1 _ _ l _ S1 hr.shape hll).mono ?_;rintro e w2 ⟨v2',rfl,P2,O2⟩;have hk2:Below w.heap.size w w2:=O2.below hb1 (Nat.le_refl _) z1;have I2:z1I w2 v2' (its (l.filter nzR)):=P2.itemsOf (fun x hx=>(hr x (List.mem_filter.1 hx).1).below hk2);have e2:its (l.filter nzR)=j1L a b:=by rw [k3I,HL.out]; exact HADD.out
 rw [e2] at I2;clear S1 O2 P2 hb1 hr hll e2;go_wp2_with fail;refine (k2V v2' (j1L a b) _ I2 (by omega) hrows).mono ?_;rintro e w3 ⟨v3,rfl,Z3,hb3⟩;have R:Hid (z1V w3 w.heap.size w3.heap.size v3 (j1L a b)):=Z3.wide hk2.size (Nat.le_refl _) (Nat.le_refl _);have HK:Hid (Below w.heap.size w w3):=z1D hk2 hb3;clear Z3 hb3 hk2 I2 hrows;go_wp2;go_ret;exact ⟨_,rfl,R.out,HK.out⟩
theorem q4R (v v2:Value) (a b:List It) (w:World) (h:q1Y w v a) (h2:q1Y w v2 b) (ha:q1G a=true) (hb:q1G b=true) :
  Calls Tryz.prog 34 #[v,v2] w fun e w'=> ∃ v',e = .returned v'/\z1V w' w.heap.size w'.heap.size v' (j1L a b)/\Below w.heap.size w w':=
 k3V v v2 a b w h h2 (q3Z ha) (z5R ha) (q3Z hb) (k2B ha) (k2B hb)
theorem v1G (v:Value) (zs:List It) (lo hi:Nat) (w:World) (h:z1V w lo hi v zs) (_hlo:lo<=w.heap.size) :
  Calls Tryz.prog 30 #[v] w fun e w'=> ∃ v',e = .returned (.tuple #[v',.bool (q1G zs)])/\z1V w' lo w'.heap.size v' (if q1G zs then zs else [])/\Below w.heap.size w w':=by
 cases hz:q1G zs with
 | false=>
  have hI:=h.items;go_enter Tryz.func30,Tryz.ntmps30;go_wp2_with fail;refine (z1O v zs _ hI).mono ?_;rw [hz];rintro e w1 ⟨rfl,hd1⟩;have HK:Hid (Below w.heap.size w w1):=hd1;clear h hI hd1;go_wp2;go_ret2;exact ⟨_,rfl,by simpa using q1D _ _,HK.out⟩
 | true=>
  have hI:=h.items;go_enter Tryz.func30,Tryz.ntmps30;go_wp2_with fail;refine (z1O v zs _ hI).mono ?_;rw [hz];rintro e w1 ⟨rfl,hd1⟩;have HK:Hid (Below w.heap.size w w1):=hd1;have R:Hid (z1V w1 lo w1.heap.size v zs):=(h.keep' HK.out).wide (Nat.le_refl _) (by have:=h.hi_le; have:=HK.out.size; omega) (Nat.le_refl _);clear h hI hd1;go_wp2;go_ret2;exact ⟨_,rfl,by simpa using R.out,HK.out⟩
theorem x4M (v v2:Value) (a b:List It) (w:World) (h:q1Y w v a) (h2:q1Y w v2 b) :
  Calls Tryz.prog 11 #[v,v2] w fun e w'=> ∃ v',e = .returned (.tuple #[v',.bool (j2O a b)])/\z1V w' w.heap.size w'.heap.size v' (v1M a b)/\Below w.heap.size w w':=by
 cases ha:q1G a with
 | false=>
  have e0:j2O a b=false:=by simp [j2O,ha]
  have e1:v1M a b=[]:=by simp [v1M,e0]
  rw [e0,e1];go_enter Tryz.func11,Tryz.ntmps11;go_wp2_with fail;refine (z1O v a _ h.items).mono ?_;rw [ha];rintro e w1 ⟨rfl,hb1⟩;have HK:Hid (Below w.heap.size w w1):=hb1;clear h h2 hb1 e0 e1;go_wp2;go_ret2;exact ⟨_,rfl,q1D _ _,HK.out⟩
 | true=>
  cases hb:q1G b with
  | false=>
   have e0:j2O a b=false:=by simp [j2O,hb]
   have e1:v1M a b=[]:=by simp [v1M,e0]
   rw [e0,e1];go_enter Tryz.func11,Tryz.ntmps11;go_wp2_with fail;refine (z1O v a _ h.items).mono ?_;rw [ha];rintro e w1 ⟨rfl,hb1⟩;go_wp2_with fail;refine (z1O v2 b _ (h2.items.below hb1)).mono ?_;rw [hb];rintro e w2 ⟨rfl,hb2⟩;have HK:Hid (Below w.heap.size w w2):=z1D hb1 hb2;clear h h2 hb1 hb2 e0 e1;go_wp2;go_ret2;exact ⟨_,rfl,q1D _ _,HK.out⟩
  | true=>
   have e0:j2O a b=q1G (j1L a b):=by simp [j2O,ha,hb]
   have e1:v1M a b=if q1G (j1L a b) then j1L a b else []:=by simp [v1M,e0]
   rw [e0,e1];obtain ⟨os,HO⟩:∃ os,Hid (os=if q1G (j1L a b) then j1L a b else []):=⟨_,rfl⟩;obtain ⟨c,HC⟩:∃ c,Hid (c=q1G (j1L a b)):=⟨_,rfl⟩;rw [<-HO.out,<-HC.out];go_enter Tryz.func11,Tryz.ntmps11;go_wp2_with fail;refine (z1O v a _ h.items).mono ?_;rw [ha];rintro e w1 ⟨rfl,hb1⟩;go_wp2_with fail;refine (z1O v2 b _ (h2.items.below hb1)).mono ?_;rw [hb];rintro e w2 ⟨rfl,hb2⟩;have hk2:=z1D hb1 hb2;go_wp2_with fail;refine (q4R v v2 a b _ (h.below hk2) (h2.below hk2) ha hb).mono ?_;rintro e w3 ⟨v3,rfl,Z3,hb3⟩;have hk3:=z1D hk2 hb3;have z2:=hk2.size;clear h h2 hb1 hb2 e0 e1;go_wp2_with fail;refine (v1G v3 (j1L a b) _ _ _ Z3 hb3.size).mono ?_;rw [<-HO.out,<-HC.out];rintro e w4 ⟨v4,rfl,Z4,hb4⟩;have HK:Hid (Below w.heap.size w w4):=z1D hk3 hb4;have R:Hid (z1V w4 w.heap.size w4.heap.size v4 os):=Z4.wide z2 (Nat.le_refl _) (Nat.le_refl _);clear Z3 Z4 hb3 hb4 hk2 hk3;go_wp2;go_ret2;exact ⟨_,rfl,R.out,HK.out⟩
def z3J (zs:List It):List It:=(zs.filter fun p=>decide (0<p.2)).map fun p=>(p.1,1)
theorem j4N {zs:List It} {k:Nat} (hk:k<zs.length):z3J (zs.take (k+1))=z3J (zs.take k)++(if 0<(zs.getD k ([],0)).2 then [((zs.getD k ([],0)).1,1)] else []):=by
 unfold z3J;rw [List.take_succ_eq_append_getElem hk,List.filter_append,List.map_append];congr 1;simp [List.getD,hk];split <;> simp_all
theorem z4I (zs:List It):(z3J zs).length<=zs.length:=by
 unfold z3J;rw [List.length_map];exact List.length_filter_le _ _
theorem x4J (v:Value) (zs:List It) (w:World) (h:z1I w v zs) :
  Calls Tryz.prog 12 #[v] w fun e w'=> ∃ v',e = .returned v'/\z1V w' w.heap.size w'.heap.size v' (if q1G zs then z3J zs else [])/\Below w.heap.size w w':=by
 obtain ⟨i0,hi,hz0,hz1,hz2⟩:=info_parts infoItem;cases hok:q1G zs with
 | false=>
  go_enter Tryz.func12,Tryz.ntmps12;go_wp2_with fail;refine (z1O v zs _ h).mono ?_;rw [hok];rintro e w1 ⟨rfl,hb1⟩;clear h;go_wp2;go_ret;exact ⟨_,rfl,q1D _ _,hb1⟩
 | true=>
  have h100:=v1B hok;have hrow:∀ k,k<zs.length->(zs.getD k ([],0)).1.length<=8796093022208:=fun k hk=>by have:=k1Z (j1S hok hk).1; omega
  go_enter Tryz.func12,Tryz.ntmps12;go_wp2_with fail;refine (z1O v zs _ h).mono ?_;rw [hok];rintro e w1 ⟨rfl,hb1⟩;have h1:=h.below hb1;rcases h1.cases with ⟨a,cap,rfl,rfl⟩ | ⟨b,off,cap,hpos,hlim,rfl,hbw,hc⟩
  ·
   clear h h1 hrow;go_wp2;refine wp_loop_rounds 1 ?_;rw [rounds_succ];go_wp2;go_ret;exact ⟨_,rfl,q1D _ _,hb1⟩
  ·
   clear h h1 hok;have hsz1:=hb1.size;obtain ⟨n,hn⟩:∃ n,n=zs.length:=⟨_,rfl⟩;have HN:Hid (n=zs.length):=hn;rw [<-hn] at hpos hlim hc hrow h100 ⊢;clear hn;go_wp2;go_loopw [3,11] (fun s i wr=> ∃ (k:Nat),k<=n/\i = .int .i64 k/\Hid (z1V wr w1.heap.size wr.heap.size s (z3J (zs.take k)))/\Hid (Below w1.heap.size w1 wr)) (fun _ i _=>n - (intOf i).toNat)
   case atStart=>exact ⟨0,Nat.zero_le _,rfl,q1D _ _,Below.refl _ _⟩
   case round=>
    obtain ⟨k,hk,rfl,HZ,HW⟩:=hrel;by_cases hlt:k<n
    ·
     have HB:=HW.out;have hlt':k<zs.length:=by rw [<-HN.out]; exact hlt
     obtain ⟨rv,hrv0,hwt0,hix0⟩:=hc k hlt;have hrv:=(HB.cell (p:=⟨b,off+k*2,none⟩) hbw).trans hrv0;have hwt:=(HB.cell (p:=⟨b,off+k*2+1,none⟩) hbw).trans hwt0;have hix:=hix0.below HB;have hbr:b<wr.heap.size:=Nat.lt_of_lt_of_le hbw HB.size;have hxl:=hrow k hlt;have hpl:(z3J (zs.take k)).length<=100:=by have:=z4I (zs.take k); rw [List.length_take] at this; omega
     have HT:=j4N hlt';clear hrv0 hwt0 hix0 hc hrow;obtain ⟨p,HP⟩:∃ p,Hid (p=zs.getD k ([],0)):=⟨_,rfl⟩;rw [<-HP.out] at hix hwt hxl HT;obtain ⟨x,y⟩:=p;obtain ⟨ra,rn,rc,rfl⟩:=hix.shape;simp only at hix hwt hxl HT;by_cases hy:0<y
     ·
      rw [if_pos hy] at HT;go_wp2_with fail;refine (j2K _ x _ (hix.alloc _) hxl).mono ?_;rintro e w2 ⟨rv2,rfl,O2,hb2⟩;obtain ⟨ra2,rn2,rc2,rfl⟩:=O2.ints.shape;have hk2:Below wr.heap.size wr w2:=z1D (z1C _) hb2;have hszw:=HB.size;have hszk:=hk2.size;obtain ⟨ps,hpsl,hspW,hprW,hfin⟩:=(HZ.out.keep' hk2).ready 1 O2 (by simp) (by simp; omega) (by omega) (by omega);have HTT:Hid (z3J (zs.take (k+1))=z3J (zs.take k)++[(x,1)]):=HT;have hpl2:ps.length<=100:=by omega
      clear hrv hwt hix HT HZ O2 hb2 hpsl hpl;go_wp2_with (at_builtin; (refine z1K rfl _ _ 35 rfl w1.heap.size 47 i0 Tryz.underlying35 hi hz0 hz1 hz2 u3 ps rfl hspW _ _ rfl hprW (by simp; omega) (by simp; omega) ?_; intro v3 w3 hown3 hg3 _));obtain ⟨Z3,B3⟩:=hfin v3 w3 hown3 hg3;have HK:Hid (Below w1.heap.size w1 w3):=HB.trans ((hk2.mono hszw).trans B3);clear hfin hown3 hg3 hspW hprW B3 hk2 HB HW;go_wp2;go_roundw
      case rel=>exact ⟨k+1,by omega,by go_num,by show z1V _ _ _ _ _; rw [HTT.out]; exact Z3,HK.out⟩
      case measure=>simp [intOf]; omega
     ·
      rw [if_neg hy,List.append_nil] at HT;have HTT:Hid (z3J (zs.take (k+1))=z3J (zs.take k)):=HT;have HZ2:Hid (z1V (wr.alloc (.cells #[.slice ra rn rc,.int .i64 y] 47)) w1.heap.size (wr.alloc (.cells #[.slice ra rn rc,.int .i64 y] 47)).heap.size u3 (z3J (zs.take k))):=(HZ.out.keep' (z1C _)).wide (Nat.le_refl _) (by simp) (Nat.le_refl _);have HK:Hid (Below w1.heap.size w1 (wr.alloc (.cells #[.slice ra rn rc,.int .i64 y] 47))):=z1D HB (z1C _);clear HT HZ HB HW hix;go_wp2;go_roundw
      case rel=>exact ⟨k+1,by omega,by go_num,by show z1V _ _ _ _ _; rw [HTT.out]; simpa using HZ2.out,by show Below _ _ _; simpa using HK.out⟩
      case measure=>simp [intOf]; omega
    ·
     have e:k=n:=by omega
     subst e;clear hc hrow;go_wp2;go_ret;refine ⟨_,rfl,?_,z1D hb1 HW.out⟩;have:=HZ.out;rw [HN.out,List.take_length] at this;exact this.wide hsz1 (Nat.le_refl _) (Nat.le_refl _)
theorem q6S (v:Value) (zs:List It) (w:World) (h:z1I w v zs) (h100:zs.length<=100) (hrow:∀ k,k<zs.length->(zs.getD k ([],0)).1.length<=8796093022208) :
  Calls Tryz.prog 113 #[v] w fun e w'=> ∃ v',e = .returned v'/\z1V w' w.heap.size w'.heap.size v' (z3J zs)/\Below w.heap.size w w':=by
 obtain ⟨i0,hi,hz0,hz1,hz2⟩:=info_parts infoItem;rcases h.cases with ⟨a,cap,rfl,rfl⟩ | ⟨b,off,cap,hpos,hlim,rfl,hbw,hc⟩
 ·
  clear h hrow;go_enter Tryz.func113,Tryz.ntmps113;go_wp2;refine wp_loop_rounds 1 ?_;rw [rounds_succ];go_wp2;go_ret;exact ⟨_,rfl,z1T w,z1C _⟩
 ·
  clear h;obtain ⟨n,hn⟩:∃ n,n=zs.length:=⟨_,rfl⟩;have HN:Hid (n=zs.length):=hn;rw [<-hn] at hpos hlim hc hrow h100 ⊢;clear hn;go_enter Tryz.func113,Tryz.ntmps113;go_wp2;go_loopw [3,4] (fun s i wr=> ∃ (k:Nat),k<=n/\i = .int .i64 k/\Hid (z1V wr w.heap.size wr.heap.size s (z3J (zs.take k)))/\Hid (Below w.heap.size w wr)) (fun _ i _=>n - (intOf i).toNat)
  case atStart=>exact ⟨0,Nat.zero_le _,rfl,z1T w,z1C _⟩
  case round=>
   obtain ⟨k,hk,rfl,HZ,HW⟩:=hrel;by_cases hlt:k<n
   ·
    have HB:=HW.out;have hlt':k<zs.length:=by rw [<-HN.out]; exact hlt
    obtain ⟨rv,hrv0,hwt0,hix0⟩:=hc k hlt;have hrv:=(HB.cell (p:=⟨b,off+k*2,none⟩) hbw).trans hrv0;have hwt:=(HB.cell (p:=⟨b,off+k*2+1,none⟩) hbw).trans hwt0;have hix:=hix0.below HB;have hxl:=hrow k hlt;have hpl:(z3J (zs.take k)).length<=100:=by have:=z4I (zs.take k); rw [List.length_take] at this; omega
    have HT:=j4N hlt';clear hrv0 hwt0 hix0 hc hrow;obtain ⟨p,HP⟩:∃ p,Hid (p=zs.getD k ([],0)):=⟨_,rfl⟩;rw [<-HP.out] at hix hwt hxl HT;obtain ⟨x,y⟩:=p;obtain ⟨ra,rn,rc,rfl⟩:=hix.shape;simp only at hix hwt hxl HT;by_cases hy:0<y
    ·
     rw [if_pos hy] at HT;go_wp2_with fail;refine (z2J _ x _ hix hxl).mono ?_;rintro e w2 ⟨rv2,rfl,O2,hk2⟩;obtain ⟨ra2,rn2,rc2,rfl⟩:=O2.ints.shape;have hszw:=HB.size;have hszk:=hk2.size;obtain ⟨ps,hpsl,hspW,hprW,hfin⟩:=(HZ.out.keep' hk2).ready 1 O2 (Nat.le_refl _) (by omega) (by omega) (by omega);have HTT:Hid (z3J (zs.take (k+1))=z3J (zs.take k)++[(x,1)]):=HT;have hpl2:ps.length<=100:=by omega
     clear hrv hwt hix HT HZ O2 hpsl hpl;go_wp2_with (at_builtin; (refine z1K rfl _ _ 35 rfl w.heap.size 47 i0 Tryz.underlying35 hi hz0 hz1 hz2 u3 ps rfl hspW _ _ rfl hprW (by simp; omega) (by simp; omega) ?_; intro v3 w3 hown3 hg3 _));obtain ⟨Z3,B3⟩:=hfin v3 w3 hown3 hg3;have HK:Hid (Below w.heap.size w w3):=HB.trans ((hk2.mono hszw).trans B3);clear hfin hown3 hg3 hspW hprW B3 hk2 HB HW;go_wp2;go_roundw
     case rel=>exact ⟨k+1,by omega,by go_num,by show z1V _ _ _ _ _; rw [HTT.out]; exact Z3,HK.out⟩
     case measure=>simp [intOf]; omega
    ·
     rw [if_neg hy,List.append_nil] at HT;have HTT:Hid (z3J (zs.take (k+1))=z3J (zs.take k)):=HT;clear HT HB hix;go_wp2;go_roundw
     case rel=>exact ⟨k+1,by omega,by go_num,by show z1V _ _ _ _ _; rw [HTT.out]; exact HZ.out,HW.out⟩
     case measure=>simp [intOf]; omega
   ·
    have e:k=n:=by omega
    subst e;clear hc hrow;go_wp2;go_ret;refine ⟨_,rfl,?_,HW.out⟩;have:=HZ.out;rw [HN.out,List.take_length] at this;exact this
theorem q4W (v:Value) (zs:List It) (w:World) (h:z1I w v zs) :
  Calls Tryz.prog 67 #[v] w fun e w'=> ∃ v',e = .returned v'/\z1V w' w.heap.size w'.heap.size v' (if q1G zs then z3J zs else [])/\Below w.heap.size w w':=by
 cases hok:q1G zs with
 | false=>
  go_enter Tryz.func67,Tryz.ntmps67;go_wp2_with fail;refine (z1M v zs _ h).mono ?_;rw [hok];rintro e w1 ⟨rfl,hb1⟩;clear h;go_wp2;go_ret;exact ⟨_,rfl,(z1T w1).wide hb1.below.size (Nat.le_refl _) (Nat.le_refl _),z1D hb1.below (z1C _)⟩
 | true=>
  have h100:=v1B hok;have hrow:∀ k,k<zs.length->(zs.getD k ([],0)).1.length<=8796093022208:=fun k hk=>by have:=k1Z (j1S hok hk).1; omega
  go_enter Tryz.func67,Tryz.ntmps67;go_wp2_with fail;refine (z1M v zs _ h).mono ?_;rw [hok];rintro e w1 ⟨rfl,hb1⟩;go_wp2_with fail;refine (q6S v zs _ (h.below hb1.below) h100 hrow).mono ?_;rintro e w2 ⟨v2,rfl,Z2,hb2⟩;clear h hrow;go_wp2;go_ret;exact ⟨_,rfl,Z2.wide hb1.below.size (Nat.le_refl _) (Nat.le_refl _),z1D hb1.below hb2⟩
end Go.Proofs.YtmjaepdplbgohaaGreatDoor
namespace Go.Proofs.YtmjaepdplbgohaaGreatDoor
theorem zOk_mkD {zs:List It} (hl:zs.length<=100) (hp:∀ p∈zs,z1R p.1=true/\wB p.2=true) (hs:Srt zs):q1G zs=true:=by
 refine k3Q hl fun j hj=> ?_;have h1:=hp _ (x1O hj);unfold q2B;rw [h1.1,h1.2];rcases Nat.eq_zero_or_pos j with e | e
 ·
  simp [e]
 ·
  have hj1:j - 1<zs.length:=by omega
  have h2:=(List.pairwise_iff_getElem.1 hs) (j - 1) j hj1 hj (by omega);have h3:j1A (zs.getD (j - 1) ([],0)).1 (zs.getD j ([],0)).1=true:=k4C (by simpa [List.getD,hj,hj1] using h2);rw [h3]; simp
theorem mem_posD {zs:List It} {p:It} (h:p∈z3J zs):p.2=1/\∃ q∈zs,p.1=q.1/\0<q.2:=by
 unfold z3J at h;obtain ⟨q,hq,rfl⟩:=List.mem_map.1 h;obtain ⟨h1,h2⟩:=List.mem_filter.1 hq;exact ⟨rfl,q,h1,rfl,by simpa using h2⟩
theorem srt_posD {zs:List It} (h:Srt zs):Srt (z3J zs):=by
 unfold Srt z3J at *;rw [List.pairwise_map];exact (h.sublist List.filter_sublist)
theorem z3E {zs:List It} (h:q1G zs=true) {p:It} (hp:p∈zs):z1R p.1=true/\wB p.2=true:=by
 obtain ⟨j,hj,rfl⟩:=j1J (d:=([],0)) hp;exact j1S h hj
theorem zOk_posD {zs:List It} (h:q1G zs=true):q1G (z3J zs)=true:=by
 refine zOk_mkD (by have:=z4I zs; have:=v1B h; omega) (fun p hp=> ?_) (srt_posD (q3Z h));obtain ⟨h1,q,hq,e,_⟩:=mem_posD hp;rw [h1,e];exact ⟨(z3E h hq).1,by decide⟩
theorem v5Q {zs:List It} {q:List Int} (h:z2V zs q≠0):∃ p∈zs,p.1=q:=
 Classical.byContradiction fun hn=>h (x2K fun p hp e=>hn ⟨p,hp,e⟩)
theorem x4R (r:List Int):∀ b:List It,(∃ q∈b,q.1=r)->(b.filter fun q=>decide (q.1≠r)).length+1<=b.length
 | [],⟨q,hq,_⟩=>by simp at hq
 | p :: b,h=>by
  by_cases e:p.1=r
  ·
   rw [List.filter_cons_of_neg (by simp [e])];have:=List.length_filter_le (fun q:It=>decide (q.1≠r)) b;rw [List.length_cons]; omega
  ·
   rw [List.filter_cons_of_pos (by simp [e]),List.length_cons,List.length_cons];have:=x4R r b (by
    obtain ⟨q,hq,hr⟩:=h
    rcases List.mem_cons.1 hq with rfl | hq
    ·
     exact absurd hr e
    ·
     exact ⟨q,hq,hr⟩)
   omega
end Go.Proofs.YtmjaepdplbgohaaGreatDoor
