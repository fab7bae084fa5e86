/- Part of the proof of laws.FnMean: DrawPK, DrawPS, CopyK, CopyP. -/
import Derived.Test.YtmjaepdplbgohaaGreatDoorPkE
import Derived.Test.YtmjaepdplbgohaaGreatDoorPkA
import Derived.Test.YtmjaepdplbgohaaGreatDoorPkD
import Derived.Test.YtmjaepdplbgohaaGreatDoorPkH
import Derived.Test.YtmjaepdplbgohaaGreatDoorPkF
import Derived.Deep.RegionHeld3
import Derived.Deep.RegionHeld
import Derived.OrdersHeld
set_option maxRecDepth 100000
set_option maxHeartbeats 16000000
set_option linter.unusedVariables false
set_option linter.unusedSimpArgs false
namespace Go.Proofs.YtmjaepdplbgohaaGreatDoor.Kd
open Go.RowKit
theorem x2O.of {w:World} {b o:Nat} {d:Nd} {vc vk vd:Value} (h:w.rangeAt b o (z1J d vc vk vd)):x2O w b o d vc vk vd:=
 ⟨h 0 _ rfl,h 1 _ rfl,h 2 _ rfl,h 3 _ rfl,h 4 _ rfl,h 5 _ rfl,h 6 _ rfl,h 7 _ rfl,h 8 _ rfl,h 9 _ rfl,h 10 _ rfl,h 11 _ rfl,h 12 _ rfl,h 13 _ rfl,h 14 _ rfl,h 15 _ rfl,h 16 _ rfl,h 17 _ rfl,h 18 _ rfl⟩
def AgB (lo hi:Nat) (w X:World):Prop:=hi<=X.heap.size/\∀ i,lo<=i->i<hi->X.heap[i]? = w.heap[i]?
theorem AgB.refl {lo hi:Nat} {w:World} (h:hi<=w.heap.size):AgB lo hi w w:=⟨h,fun _ _ _=>rfl⟩
theorem AgB.trans {lo hi:Nat} {a b c:World} (h:AgB lo hi a b) (k:AgB lo hi b c):AgB lo hi a c:=⟨k.1,fun i h1 h2=>(k.2 i h1 h2).trans (h.2 i h1 h2)⟩
theorem AgB.mono {lo lo' hi hi':Nat} {a b:World} (h:AgB lo hi a b) (h1:lo<=lo') (h2:hi'<=hi):AgB lo' hi' a b:=⟨Nat.le_trans h2 h.1,fun i h3 h4=>h.2 i (Nat.le_trans h1 h3) (Nat.lt_of_lt_of_le h4 h2)⟩
def AgX (lo hi x:Nat) (w X:World):Prop:=hi<=X.heap.size/\∀ i,lo<=i->i<hi->i≠x->X.heap[i]? = w.heap[i]?
theorem AgB.x {lo hi hi' x:Nat} {w X:World} (h:AgB lo hi w X) (hh:hi'<=hi):AgX lo hi' x w X:=⟨Nat.le_trans hh h.1,fun i h1 h2 _=>h.2 i h1 (Nat.lt_of_lt_of_le h2 hh)⟩
theorem AgX.trans {lo hi x:Nat} {a b c:World} (h:AgX lo hi x a b) (k:AgX lo hi x b c):AgX lo hi x a c:=⟨k.1,fun i h1 h2 h3=>(k.2 i h1 h2 h3).trans (h.2 i h1 h2 h3)⟩
theorem AgX.grown {lo hi x:Nat} {w X:World} {row:Option Nat} (h:w.grownBy X row) (hh:hi<=w.heap.size) (hr:∀ k,row=some k->k<lo\/hi<=k\/k=x):AgX lo hi x w X:=
 ⟨Nat.le_trans hh h.size,fun i h1 h2 h3=>h.block i (Nat.lt_of_lt_of_le h2 hh) (fun e=>by rcases hr i e.symm with k | k | k <;> omega)⟩
theorem AgX.low {lo hi hi' x:Nat} {w X:World} (h:AgX lo hi x w X) (hh:hi'<=hi) (hx:x<lo\/hi'<=x):AgB lo hi' w X:=⟨Nat.le_trans hh h.1,fun i h1 h2=>h.2 i h1 (Nat.lt_of_lt_of_le h2 hh) (by omega)⟩
theorem AgX.lower {lo lo' hi x:Nat} {w X:World} (h:AgX lo' hi x w X) (hl:lo'<=lo):AgX lo hi x w X:=⟨h.1,fun i h1 h2 h3=>h.2 i (Nat.le_trans hl h1) h2 h3⟩
theorem AgB.grown {lo hi:Nat} {w X:World} {row:Option Nat} (h:w.grownBy X row) (hh:hi<=w.heap.size) (hr:∀ k,row=some k->k<lo\/hi<=k):AgB lo hi w X:=
 ⟨Nat.le_trans hh h.size,fun i h1 h2=>h.block i (Nat.lt_of_lt_of_le h2 hh) (fun e=>by rcases hr i e.symm with k | k <;> omega)⟩
theorem AgB.of_below {lo hi:Nat} {w X:World} (h:Below w.heap.size w X) (hh:hi<=w.heap.size):AgB lo hi w X:=⟨Nat.le_trans hh h.size,fun i _ h2=>h.block i (Nat.lt_of_lt_of_le h2 hh)⟩
theorem v2S {w X:World} {base:Nat} {e:TypeId} {s:Nat} {v:Value} {n:Nat} {xs:List Value} (h:w.ownsRow base e s v n xs) (hx:∀ k,v.ownBlock=some k->X.heap[k]? = w.heap[k]?):X.ownsRow base e s v n xs:=by
 refine ⟨h.1,?_⟩;rcases h.2 with hn | ⟨g,cap,cur,rfl,hb,hgg,rest⟩
 ·
  exact .inl hn
 ·
  exact .inr ⟨g,cap,cur,rfl,hb,(hx g rfl).trans hgg,rest⟩
def j2V (cs:List Cel):List Value:=cs.flatMap fun c=>[.int .i64 c.k,.int .i64 c.a,.int .i64 c.b,.int .i64 c.n]
theorem x6B (cs:List Cel) (c:Cel):j2V (cs++[c])=j2V cs++[.int .i64 c.k,.int .i64 c.a,.int .i64 c.b,.int .i64 c.n]:=by simp [j2V]
theorem j5B (cs:List Cel):(j2V cs).length=cs.length*4:=by
 induction cs with
 | nil=>rfl
 | cons c cs ih=>
  have e:j2V (c :: cs)=[.int .i64 c.k,.int .i64 c.a,.int .i64 c.b,.int .i64 c.n]++j2V cs:=by simp [j2V]
  rw [e,List.length_append,ih]; simp; omega
theorem celW_one (cs:List Cel):∀ u∈j2V cs,u.oneCell'=true:=by
 intro u hu;simp only [j2V,List.mem_flatMap] at hu;obtain ⟨c,_,hu⟩:=hu;simp at hu;rcases hu with rfl | rfl | rfl | rfl <;> rfl
theorem celW_at:∀ (cs:List Cel) (j:Nat),j<cs.length->(j2V cs)[j*4]? = some (.int .i64 (cs.getD j Cel.zero).k)/\(j2V cs)[j*4+1]? = some (.int .i64 (cs.getD j Cel.zero).a)/\(j2V cs)[j*4+2]? = some (.int .i64 (cs.getD j Cel.zero).b)/\(j2V cs)[j*4+3]? = some (.int .i64 (cs.getD j Cel.zero).n)
 | [],_,h=>by simp at h
 | c :: cs,0,_=>by simp [j2V]
 | c :: cs,j+1,h=>by
  obtain ⟨h0,h1,h2,h3⟩:=celW_at cs j (by simpa using h)
  have e:j2V (c :: cs)=[.int .i64 c.k,.int .i64 c.a,.int .i64 c.b,.int .i64 c.n]++j2V cs:=by simp [j2V]
  rw [e]
  have k:∀ i,([.int .i64 c.k,.int .i64 c.a,.int .i64 c.b,.int .i64 c.n]++j2V cs)[(j+1)*4+i]? = (j2V cs)[j*4+i]?:=fun i=>by
   rw [List.getElem?_append_right (by simp; omega)]
   congr 1
   simp; omega
  refine ⟨(k 0).trans (by simpa [List.getD] using h0),(k 1).trans (by simpa [List.getD] using h1),(k 2).trans (by simpa [List.getD] using h2),(k 3).trans (by simpa [List.getD] using h3)⟩
theorem q1J.of_owns {w:World} {base:Nat} {v:Value} {cs:List Cel} (h:w.ownsRow base 24 4 v cs.length (j2V cs)):q1J w v cs:=by
 have h0:=h;obtain ⟨_,h2⟩:=h0;rcases h2 with ⟨rfl,hn⟩ | ⟨g,cap,cur,rfl,_,_,hc,hm,_⟩
 ·
  have:cs=[]:=List.length_eq_zero_iff.1 hn;subst this;exact ⟨by simp,none,0,rfl,fun _=>rfl,fun e=>absurd rfl e⟩
 ·
  unfold maxLen at hm;refine ⟨by omega,_,cap,rfl,fun e=>(by cases e),fun _=>⟨g,0,rfl,(h.lt g rfl).2,fun j hj=> ?_⟩⟩;obtain ⟨h0,h1,h2,h3⟩:=celW_at cs j hj;simp only [Nat.zero_add];exact ⟨(h.cellAt _ (by omega)).trans h0,(h.cellAt _ (by omega)).trans h1,(h.cellAt _ (by omega)).trans h2,(h.cellAt _ (by omega)).trans h3⟩
theorem RawInts.of_owns {w:World} {base:Nat} {v:Value} {xs:List Int} (h:w.ownsRow base 3 1 v xs.length (xs.map (Value.int .i64))):RawInts w v xs:=by
 have h0:=h;obtain ⟨_,h2⟩:=h0;rcases h2 with ⟨rfl,hn⟩ | ⟨g,cap,cur,rfl,_,_,hc,hm,_⟩
 ·
  have:xs=[]:=List.length_eq_zero_iff.1 hn;subst this;exact ⟨by simp,none,0,rfl,fun _=>rfl,fun e=>absurd rfl e,Nat.le_refl _,by omega⟩
 ·
  unfold maxLen at hm;refine ⟨by omega,_,cap,rfl,fun e=>(by cases e),fun _=>⟨g,0,rfl,(h.lt g rfl).2,fun j hj=> ?_⟩,hc,hm⟩;rw [Nat.zero_add];refine (h.cellAt _ (by omega)).trans ?_;simp [List.getD,hj]
def PlC (n:Nat) (w:World) (lo:Nat) (p:Pl (n+1)) (vc vk vd:Value):Prop:=∀ X,AgB lo w.heap.size w X->q1X (NodeAt n) X p.nd p.kids vc vk vd
def PlH (n:Nat) (w:World) (lo hi x:Nat) (p:Pl (n+1)) (vc vk vd:Value):Prop:=
 lo<=hi/\hi<=w.heap.size/\(∀ X,AgX lo hi x w X->v2X (NodeAt n) X vd p.kids)/\w.ownsRow hi 24 4 vc p.nd.cs.length (j2V p.nd.cs)/\w.ownsRow hi 3 1 vk p.nd.ks.length (p.nd.ks.map (Value.int .i64))
def PlT (n:Nat) (w:World) (lo:Nat) (p:Pl (n+1)) (vc vk vd:Value):Prop:=∃ hi x,PlH n w lo hi x p vc vk vd
theorem PlC.now {n:Nat} {w:World} {lo:Nat} {p:Pl (n+1)} {vc vk vd:Value} (h:PlC n w lo p vc vk vd):q1X (NodeAt n) w p.nd p.kids vc vk vd:=h w (AgB.refl (Nat.le_refl _))
theorem PlC.ag {n:Nat} {w X:World} {lo:Nat} {p:Pl (n+1)} {vc vk vd:Value} (h:PlC n w lo p vc vk vd) (hx:AgB lo w.heap.size w X):PlC n X lo p vc vk vd:=fun Y hY=>h Y (hx.trans (hY.mono (Nat.le_refl _) hx.1))
theorem PlT.held {n:Nat} {w:World} {lo:Nat} {p:Pl (n+1)} {vc vk vd:Value} (h:PlT n w lo p vc vk vd):PlC n w lo p vc vk vd:=by
 obtain ⟨hi,x,h1,h2,hk,hc,hi'⟩:=h;intro X hX;refine ⟨q1J.of_owns (v2S hc fun k e=>hX.2 k ?_ (hc.lt k e).2),RawInts.of_owns (v2S hi' fun k e=>hX.2 k ?_ (hi'.lt k e).2),hk X (hX.x h2)⟩
 ·
  exact Nat.le_trans h1 (hc.lt k e).1
 ·
  exact Nat.le_trans h1 (hi'.lt k e).1
theorem PlC.lower {n:Nat} {w:World} {lo lo':Nat} {p:Pl (n+1)} {vc vk vd:Value} (h:PlC n w lo p vc vk vd) (hl:lo'<=lo):PlC n w lo' p vc vk vd:=fun X hX=>h X (hX.mono hl (Nat.le_refl _))
theorem PlT.lower {n:Nat} {w:World} {lo lo':Nat} {p:Pl (n+1)} {vc vk vd:Value} (h:PlT n w lo p vc vk vd) (hl:lo'<=lo):PlT n w lo' p vc vk vd:=by
 obtain ⟨hi,x,h1,h2,hk,r⟩:=h;exact ⟨hi,x,Nat.le_trans hl h1,h2,fun X hX=>hk X (hX.lower hl),r⟩
theorem PlC.step {n:Nat} {w X:World} {lo:Nat} {p:Pl (n+1)} {vc vk vd:Value} {row:Option Nat} (h:PlC n w lo p vc vk vd) (hg:w.grownBy X row) (hr:∀ k,row=some k->k<lo):PlC n X lo p vc vk vd:=
 h.ag (AgB.grown hg (Nat.le_refl _) fun k e=> .inl (hr k e))
theorem j2C {w:World} {lo n size:Nat} {e e':TypeId} {v:Value} {xs:List Value} {k:Nat} {arr:Array Value} (h:w.ownsRow lo e size v n xs) (hk:w.heap[k]? = some (.cells arr e')) (he:(e'==e)=false):v.ownBlock≠some k:=by
 rcases h.2 with ⟨rfl,_⟩ | ⟨g,cap,cur,rfl,_,hg,_⟩
 ·
  simp [Value.ownBlock]
 ·
  intro e2;simp only [Value.ownBlock,Option.some.injEq] at e2;subst e2;rw [hg] at hk;simp only [Option.some.injEq,Obj.cells.injEq] at hk;rw [hk.2.1] at he;simp at he
theorem PlH.step {n:Nat} {w X:World} {lo hi x:Nat} {p:Pl (n+1)} {vc vk vd:Value} {row:Option Nat} (h:PlH n w lo hi x p vc vk vd) (hg:w.grownBy X row) (hr:∀ k,row=some k->k<lo\/((hi<=k\/k=x)/\∃ arr,w.heap[k]? = some (.cells arr 31))):PlH n X lo hi x p vc vk vd:=by
 obtain ⟨h1,h2,hk,hc,hi'⟩:=h;refine ⟨h1,Nat.le_trans h2 hg.size,fun Y hY=>hk Y ((AgX.grown hg h2 fun k e=>(hr k e).imp id fun q=>q.1).trans hY),hc.kept hg ?_,hi'.kept hg ?_⟩
 ·
  cases hv:vc.ownBlock with
  | none=>exact .inl rfl
  | some b=>
   refine .inr fun e=> ?_;rcases hr b e.symm with k | ⟨_,arr,k⟩
   ·
    have:=(hc.lt b hv).1; omega
   ·
    exact j2C hc k (by decide) hv
 ·
  cases hv:vk.ownBlock with
  | none=>exact .inl rfl
  | some b=>
   refine .inr fun e=> ?_;rcases hr b e.symm with k | ⟨_,arr,k⟩
   ·
    have:=(hi'.lt b hv).1; omega
   ·
    exact j2C hi' k (by decide) hv
theorem PlT.step {n:Nat} {w X:World} {lo:Nat} {p:Pl (n+1)} {vc vk vd:Value} {row:Option Nat} (h:PlT n w lo p vc vk vd) (hg:w.grownBy X row) (hr:∀ k,row=some k->k<lo):PlT n X lo p vc vk vd:=by
 obtain ⟨hi,x,h⟩:=h;exact ⟨hi,x,h.step hg fun k e=> .inl (hr k e)⟩
theorem PlH.cell {n:Nat} {w X:World} {lo hi x:Nat} {p:Pl (n+1)} {vc vk vd vc':Value} (h:PlH n w lo hi x p vc vk vd) (hg:w.grownBy X vc.ownBlock) (c:Cel) (ho:X.ownsRow hi 24 4 vc' (p.nd.cs.length+1) (j2V p.nd.cs++[.int .i64 c.k,.int .i64 c.a,.int .i64 c.b,.int .i64 c.n])):PlH n X lo hi x (Pl.mk { p.nd with cs:=p.nd.cs++[c] } p.kids) vc' vk vd:=by
 obtain ⟨h1,h2,hk,hc,hi'⟩:=h;refine ⟨h1,Nat.le_trans h2 hg.size,fun Y hY=>hk Y ((AgX.grown hg h2 fun k e=> .inr (.inl (hc.lt k e).1)).trans hY),?_,hi'.kept hg ?_⟩
 ·
  rw [Pl.nd_mk,x6B,List.length_append];exact ho
 ·
  cases hv:vk.ownBlock with
  | none=>exact .inl rfl
  | some b=>
   refine .inr fun e=> ?_;rcases hc.2 with ⟨rfl,_⟩ | ⟨g,cap,cur,rfl,_,hgg,_⟩
   ·
    simp [Value.ownBlock] at e
   ·
    simp only [Value.ownBlock,Option.some.injEq] at e;subst e;exact j2C hi' hgg (by decide) hv
theorem PlH.keys {n:Nat} {w X:World} {lo hi x:Nat} {p:Pl (n+1)} {vc vk vd vk':Value} (h:PlH n w lo hi x p vc vk vd) (hg:w.grownBy X vk.ownBlock) (xs:List Int) (ho:X.ownsRow hi 3 1 vk' (p.nd.ks.length+xs.length) (p.nd.ks.map (Value.int .i64)++xs.map (Value.int .i64))):PlH n X lo hi x (Pl.mk { p.nd with ks:=p.nd.ks++xs } p.kids) vc vk' vd:=by
 obtain ⟨h1,h2,hk,hc,hi'⟩:=h;refine ⟨h1,Nat.le_trans h2 hg.size,fun Y hY=>hk Y ((AgX.grown hg h2 fun k e=> .inr (.inl (hi'.lt k e).1)).trans hY),hc.kept hg ?_,?_⟩
 ·
  cases hv:vc.ownBlock with
  | none=>exact .inl rfl
  | some b=>
   refine .inr fun e=> ?_;rcases hi'.2 with ⟨rfl,_⟩ | ⟨g,cap,cur,rfl,_,hgg,_⟩
   ·
    simp [Value.ownBlock] at e
   ·
    simp only [Value.ownBlock,Option.some.injEq] at e;subst e;exact j2C hc hgg (by decide) hv
 ·
  rw [Pl.nd_mk,List.map_append,List.length_append];exact ho
theorem PlH.nd {n:Nat} {w:World} {lo hi x:Nat} {p:Pl (n+1)} {vc vk vd:Value} (h:PlH n w lo hi x p vc vk vd) (d:Nd) (h1:d.cs=p.nd.cs) (h2:d.ks=p.nd.ks):PlH n w lo hi x (Pl.mk d p.kids) vc vk vd:=by
 obtain ⟨a,b,c,e,f⟩:=h;refine ⟨a,b,c,?_,?_⟩
 ·
  rw [Pl.nd_mk,h1]; exact e
 ·
  rw [Pl.nd_mk,h2]; exact f
theorem PlC.node {n:Nat} {w X:World} {lo b o:Nat} {p:Pl (n+1)} {vc vk vd:Value} (h:PlC n w lo p vc vk vd) (hX:AgB lo w.heap.size w X) (hb:b<X.heap.size) (hr:X.rangeAt b o (z1J p.nd vc vk vd)):NodeAt (n+1) X b o p:=
 ⟨hb,vc,vk,vd,x2O.of hr,h X hX⟩
theorem x4E (n:Nat) (X:World):v2X (NodeAt n) X (.slice none 0 0) ([]:List (Pl n)):=⟨by simp,none,0,rfl,fun _=>rfl,fun e=>absurd rfl e⟩
theorem x2C {X:World} {b:Nat} {vs:List Value} {t:TypeId} (h:X.heap[b]? = some (.cells vs.toArray t)) {o:Nat} {us:List Value} (hu:∀ j u,us[j]? = some u->vs[o+j]? = some u):X.rangeAt b o us:=fun j v hv=>by
 rw [cell_of_row X b (o+j) _ _ _ h]
 simpa using hu j v hv
theorem q2Q {X:World} {b:Nat} {o:Obj} (h:X.heap[b]? = some o):b<X.heap.size:=(Array.getElem?_eq_some_iff.1 h).1
theorem q5P {n:Nat} {w1 w2:World} {lo hi x b cap:Nat} {a:Pl (n+1)} {vc vk vd:Value} (h:PlC n w1 lo a vc vk vd) (h12:AgB lo w1.heap.size w1 w2) (hl:lo<=b) (hb:w2.heap[b]? = some (.cells (z1J a.nd vc vk vd).toArray 31)) (hbh:b<hi) (h1h:w1.heap.size<=hi) (hx:x<lo\/(w1.heap.size<=x/\b≠x)) :
  ∀ X,AgX lo hi x w2 X->v2X (NodeAt (n+1)) X (.slice (some ⟨b,0,none⟩) 1 cap) [a]:=fun X hX=>by
 have hbX:=(hX.2 b hl hbh (by omega)).trans hb
 refine ⟨by simp,_,cap,rfl,fun e=>(by cases e),fun _=>⟨b,0,rfl,q2Q hbX,fun j hj=> ?_⟩⟩
 obtain rfl:j=0:=by simpa using hj
 exact h.node (h12.trans (hX.low h1h (by omega))) (q2Q hbX) (x2C hbX fun j u hu=>by simpa using hu)
theorem kids_two {n:Nat} {w1 w1' w2:World} {lo hi x b cap:Nat} {a a':Pl (n+1)} {vc vk vd vc' vk' vd':Value} (h:PlC n w1 lo a vc vk vd) (h12:AgB lo w1.heap.size w1 w2) (h':PlC n w1' lo a' vc' vk' vd') (h12':AgB lo w1'.heap.size w1' w2) (hl:lo<=b) (hb:w2.heap[b]? = some (.cells (z1J a.nd vc vk vd++z1J a'.nd vc' vk' vd').toArray 31)) (hbh:b<hi) (h1h:w1.heap.size<=hi) (h1h':w1'.heap.size<=hi) (hx:x<lo) :
  ∀ X,AgX lo hi x w2 X->v2X (NodeAt (n+1)) X (.slice (some ⟨b,0,none⟩) 2 cap) [a,a']:=fun X hX=>by
 have hbX:=(hX.2 b hl hbh (by omega)).trans hb
 refine ⟨by simp,_,cap,rfl,fun e=>(by cases e),fun _=>⟨b,0,rfl,q2Q hbX,fun j hj=> ?_⟩⟩
 match j,hj with
 | 0,_=>exact h.node (h12.trans (hX.low h1h (.inl hx))) (q2Q hbX) (x2C hbX fun j u hu=>by
   have hj:=(List.getElem?_eq_some_iff.1 hu).1
   simp only [Nat.zero_mul,Nat.zero_add]
   rw [List.getElem?_append_left hj]; exact hu)
 | 1,_=>exact h'.node (h12'.trans (hX.low h1h' (.inl hx))) (q2Q hbX) (x2C hbX fun j u hu=>by
   simp only [Nat.zero_add,Nat.one_mul]
   rw [List.getElem?_append_right (by simp [z1J])]
   simpa [z1J] using hu)
def Pl.up:(n:Nat)->Pl n->Pl (n+1)
 | 0,p=>nomatch p
 | n+1,p=>Pl.mk p.nd (p.kids.map (Pl.up n))
theorem Pl.up_nd {n:Nat} (p:Pl (n+1)):(Pl.up (n+1) p).nd=p.nd:=rfl
theorem Pl.up_kids {n:Nat} (p:Pl (n+1)):(Pl.up (n+1) p).kids=p.kids.map (Pl.up n):=rfl
theorem Pl.up_sz:∀ (n:Nat) (p:Pl n),Pl.sz (n+1) (Pl.up n p)=Pl.sz n p
 | 0,p=>nomatch p
 | n+1,p=>by
  rw [Pl.sz_succ,Pl.sz_succ,Pl.up_nd,Pl.up_kids,List.length_map,List.map_map]
  congr 3
  exact List.map_congr_left fun x _=>Pl.up_sz n x
theorem v2X.up {n:Nat} {w:World} {v:Value} {l:List (Pl n)} (h:v2X (NodeAt n) w v l) (hN:∀ b o x,NodeAt n w b o x->NodeAt (n+1) w b o (Pl.up n x)):v2X (NodeAt (n+1)) w v (l.map (Pl.up n)):=by
 obtain ⟨hl,a,cap,rfl,hn,hc⟩:=h;refine ⟨by rw [List.length_map]; exact hl,a,cap,by rw [List.length_map],hn,fun hne=> ?_⟩;obtain ⟨b,off,rfl,hbl,hk⟩:=hc (fun e=>hne (by rw [e]; rfl));exact ⟨b,off,rfl,hbl,fun j hj=>by rw [List.getElem_map]; exact hN _ _ _ (hk j (by simpa using hj))⟩
theorem NodeAt.up:∀ (n:Nat) {w:World} {b o:Nat} {p:Pl n},NodeAt n w b o p->NodeAt (n+1) w b o (Pl.up n p)
 | 0,_,_,_,p,_=>nomatch p
 | n+1,w,b,o,p,h=>by
  obtain ⟨hl,vc,vk,vd,hf,h1,h2,h3⟩:=h
  exact ⟨hl,vc,vk,vd,hf,h1,h2,h3.up fun b o x hx=>NodeAt.up n hx⟩
theorem PlT.up {n:Nat} {w:World} {lo:Nat} {p:Pl (n+1)} {vc vk vd:Value} (h:PlT n w lo p vc vk vd):PlT (n+1) w lo (Pl.up (n+1) p) vc vk vd:=by
 obtain ⟨hi,x,h1,h2,hk,hc,hi'⟩:=h;exact ⟨hi,x,h1,h2,fun X hX=>(hk X hX).up fun b o x hx=>NodeAt.up n hx,hc,hi'⟩
def x1P (X:World) (b:Nat) (vs:List Value):Prop:=X.heap[b]? = some (.cells vs.toArray 31)/\vs.length=19
def z19:List Value:=z1J ⟨0,0,⟨0,false,⟨0,0,0,0⟩,⟨0,0,0,0⟩⟩,[],0,0,[],0,0⟩ (.slice none 0 0) (.slice none 0 0) (.slice none 0 0)
theorem x1P.grown {X Y:World} {b:Nat} {vs:List Value} {row:Option Nat} (h:x1P X b vs) (hg:X.grownBy Y row) (hne:row≠some b):x1P Y b vs:=⟨(hg.block b (q2Q h.1) (fun e=>hne e.symm)).trans h.1,h.2⟩
theorem x1P.range {X:World} {b:Nat} {vs:List Value} (h:x1P X b vs):X.rangeAt b 0 vs:=x2C h.1 fun j u hu=>by rw [Nat.zero_add]; exact hu
theorem x1P.cell {X:World} {b j:Nat} {vs:List Value} {v:Value} (h:x1P X b vs) (hj:vs[j]? = some v):X.cell? ⟨b,j,none⟩=some v:=cell_at h.1 (by simpa using hj)
theorem x1P.frozen {X:World} {b:Nat} {vs:List Value} (h:x1P X b vs) (j:Nat):X.frozen? ⟨b,j,none⟩=false:=by simp [World.frozen?,h.1]
theorem x1P.there {X:World} {b:Nat} {vs:List Value} (h:x1P X b vs):X.there b 0 19:=fun j hj=>by
 rw [Nat.zero_add]
 refine ⟨?_,h.frozen j⟩
 rw [h.cell (List.getElem?_eq_getElem (by rw [h.2]; exact hj))]; rfl
theorem x1P.lt {X:World} {b:Nat} {vs:List Value} (h:x1P X b vs):b<X.heap.size:=q2Q h.1
theorem z5Z {w:World} {g j:Nat} {l:List Value} {e:TypeId} {u:Value} (h:w.heap[g]? = some (.cells l.toArray e)):(w.setCell ⟨g,j,none⟩ u).heap[g]? = some (.cells (l.set j u).toArray e):=by
 have k:=heap_setCell_same w g j l.toArray e u h;rwa [List.setIfInBounds_toArray] at k
theorem z5Y {g:Nat} {e:TypeId}:∀ (vs:List Value) (pre old:List Value) {w:World},w.heap[g]? = some (.cells (pre++old).toArray e)->old.length=vs.length->(w.setCells g pre.length vs).heap[g]? = some (.cells (pre++vs).toArray e)
 | [],pre,old,w,h,hl=>by
  have:old=[]:=List.length_eq_zero_iff.1 hl
  subst this
  exact h
 | v :: r,pre,[],w,h,hl=>by simp at hl
 | v :: r,pre,x :: old,w,h,hl=>by
  rw [World.setCells]
  have h1:=z5Z (j:=pre.length) (u:=v) h
  rw [List.set_append_right _ _ (Nat.le_refl _),Nat.sub_self,List.set_cons_zero] at h1
  have h2:=z5Y r (pre++[v]) old (w:=w.setCell ⟨g,pre.length,none⟩ v) (by rw [List.append_assoc]; exact h1) (by simpa using hl)
  rw [List.length_append,List.append_assoc] at h2
  exact h2
theorem x1P.put {X:World} {b:Nat} {vs:List Value} (h:x1P X b vs) (us:List Value) (hl:us.length=19):x1P (X.setCells b 0 us) b us:=⟨z5Y us [] vs h.1 (by rw [h.2,hl]),hl⟩
theorem x1P.put1 {X:World} {b:Nat} {vs:List Value} (h:x1P X b vs) (j:Nat) (u:Value):x1P (X.setCell ⟨b,j,none⟩ u) b (vs.set j u):=⟨z5Z h.1,by rw [List.length_set]; exact h.2⟩
theorem q1M (b:Nat):∀ (vs:List Value) (o:Nat) (w:World),w.grownBy (w.setCells b o vs) (some b)
 | [],_,w=>v1U _ _
 | v :: r,o,w=>by rw [World.setCells]; exact z1G (j1O w b o v) (q1M b r (o+1) _)
theorem z1X (X:World) (vs:List Value) (hl:vs.length=19):x1P (X.alloc (.cells vs.toArray 31)) X.heap.size vs:=⟨alloc_at _ _,hl⟩
theorem j1W (d:Nd) (vc vk vd:Value) (h1:vc.oneCell'=true) (h2:vk.oneCell'=true) (h3:vd.oneCell'=true):(z1J d vc vk vd).toArray.all (·.oneCell')=true:=
 all_oneCell_toArray fun v hv=>by
  simp only [z1J,List.mem_cons,List.not_mem_nil,or_false] at hv
  rcases hv with rfl | rfl | rfl | rfl | rfl | rfl | rfl | rfl | rfl | rfl | rfl | rfl | rfl | rfl | rfl | rfl | rfl | rfl | rfl <;> first | rfl | assumption
theorem q1I {P:Program} {ops:Array Oper} {o:Oper} {a:Act} {w:World} {K:Act->World->Prop} {Q:Exit->Act->World->Prop} {E:Prop} (hg:o.guard=none) (h:Oper.wp P o a w K Q):if Region.wanted o (yielded ops a.tmps)=true then Oper.wp P o a w K Q else E:=by
 rw [if_pos (by simp [Region.wanted,hg])];exact h
theorem v1R {P:Program} {fn:Func} {tmps:Array Value} {w:World} {v:Value} {a:Nat} {t:TypeId} {ad:Addr} (h:fn.results=#[.cell a t]) (ha:tmps.getD a undef = .pointer (some ad)) (hl:(loadVar t ad).run P w = .ok v w):(results fn tmps).run P w = .ok v w:=by
 unfold results;rw [h];generalize hq:loadVar t=L at hl;simp only [Array.mapM_eq_mapM_toList,List.mapM_cons,List.mapM_nil,ha,asAddr,hq];simp [hl]
theorem q1P {P:Program} {fn:Func} {tmps:Array Value} {w:World} {v u:Value} {a b:Nat} {t:TypeId} {ad:Addr} (h:fn.results=#[.cell a t,.tmp b]) (ha:tmps.getD a undef = .pointer (some ad)) (hb:tmps.getD b undef=u) (hl:(loadVar t ad).run P w = .ok v w):(results fn tmps).run P w = .ok (.tuple #[v,u]) w:=by
 unfold results;rw [h];generalize hq:loadVar t=L at hl;simp only [Array.mapM_eq_mapM_toList,List.mapM_cons,List.mapM_nil,ha,hb,asAddr,hq];simp [hl]
theorem j1K {X:World} {b:Nat} {d:Nd} {vc vk vd:Value} (h:x1P X b (z1J d vc vk vd)):(loadVar 31 ⟨b,0,none⟩).run Tryz.prog X = .ok (.agg (z1J d vc vk vd).toArray) X:=
 run_loadVar_mid (P:=Tryz.prog) X b 0 31 (z1J d vc vk vd) _ h.range Tryz.underlying31 rfl (by kernel_rfl)
def StR (w X:World) (g P:Nat):Prop:=Rd X g P/\w.grownBy X (some g)/\x1P X w.heap.size z19
theorem StR.call {w X Y:World} {g P P':Nat} (h:StR w X g P) (hgw:g<w.heap.size) (hg:X.grownBy Y (some g)) (hr:Rd Y g P'):StR w Y g P':=⟨hr,z1G h.2.1 hg,h.2.2.grown hg (fun e=>by simp at e; omega)⟩
theorem StR.new {w X Y:World} {g P:Nat} {row:Option Nat} (h:StR w X g P) (hgw:g<w.heap.size) (hg:X.grownBy Y row) (hr:∀ k,row=some k->w.heap.size<k):StR w Y g P:=
 ⟨h.1.grown hg (fun k e=>by have:=hr k e; omega),x1T h.2.1 hg (fun k e=>by have:=hr k e; omega),h.2.2.grown hg (fun e=>by have:=hr _ e; omega)⟩
theorem StR.fin {w X:World} {g P n:Nat} {p:Pl (n+1)} {vc vk vd:Value} (h:StR w X g P) (hgw:g<w.heap.size) (hp:PlT n X (w.heap.size+1) p vc vk vd) (us:List Value):Rd (X.setCells w.heap.size 0 us) g P/\w.grownBy (X.setCells w.heap.size 0 us) (some g)/\PlT n (X.setCells w.heap.size 0 us) (w.heap.size+1) p vc vk vd:=
 ⟨h.1.grown (q1M _ _ _ _) (fun k e=>by simp at e; omega),x1T h.2.1 (q1M _ _ _ _) (fun k e=>by simp at e; omega),hp.step (q1M _ _ _ _) (fun k e=>by simp at e; omega)⟩
theorem q1F {X Y:World} (h:Below X.heap.size X Y) (row:Option Nat):X.grownBy Y row:=v2U (v1U X row) h
theorem StR.le {w X:World} {g P P':Nat} (h:StR w X g P) (hp:P<=P'):StR w X g P':=⟨h.1.le hp,h.2⟩
theorem StR.below {w X Y:World} {g P:Nat} (h:StR w X g P) (hgw:g<w.heap.size) (hb:Below X.heap.size X Y):StR w Y g P:=h.new hgw (q1F hb none) (fun k e=>by cases e)
theorem StR.start {w:World} {g P:Nat} (h:Rd w g P):StR w (w.alloc (.cells z19.toArray 31)) g P:=⟨h.below (z1B _),World.grownBy_alloc w _ _,z1X _ _ rfl⟩
theorem PlT.leaf {w:World} {lo n:Nat} (hl:lo<=w.heap.size) (d:Nd) (hc:d.cs=[]) (hk:d.ks=[]):PlT n w lo (Pl.mk d []) (.slice none 0 0) (.slice none 0 0) (.slice none 0 0):=by
 refine ⟨w.heap.size,0,hl,Nat.le_refl _,fun X _=>x4E n X,?_,?_⟩
 ·
  rw [Pl.nd_mk,hc]; exact World.ownsRow_nil _ _ _ _
 ·
  rw [Pl.nd_mk,hk]; exact World.ownsRow_nil _ _ _ _
theorem x1P.past {X W:World} {A b:Nat} {vs us:List Value} (h:x1P X A vs) (hne:A≠b) (hW:X.setCells b 0 us=W):x1P W A vs:=by
 subst hW;exact h.grown (q1M _ _ _ _) (fun e=>by simp at e; omega)
def StA (w X:World) (g P A m:Nat) (a:Pl (m+1)) (va ka da:Value):Prop:=StR w X g P/\PlT m X (w.heap.size+1) a va ka da/\x1P X A (z1J a.nd va ka da)/\w.heap.size<A
theorem StA.call {w X Y:World} {g P P' A m:Nat} {a:Pl (m+1)} {va ka da:Value} (h:StA w X g P A m a va ka da) (hgw:g<w.heap.size) (hg:X.grownBy Y (some g)) (hr:Rd Y g P'):StA w Y g P' A m a va ka da:=
 ⟨h.1.call hgw hg hr,h.2.1.step hg (fun k e=>by simp at e; omega),h.2.2.1.grown hg (fun e=>by simp at e; have:=h.2.2.2; omega),h.2.2.2⟩
theorem StA.below {w X Y:World} {g P A m:Nat} {a:Pl (m+1)} {va ka da:Value} (h:StA w X g P A m a va ka da) (hgw:g<w.heap.size) (hb:Below X.heap.size X Y):StA w Y g P A m a va ka da:=
 ⟨h.1.below hgw hb,h.2.1.step (q1F hb none) (fun k e=>by cases e),h.2.2.1.grown (q1F hb none) (fun e=>by cases e),h.2.2.2⟩
theorem PlT.fresh {X:World} {n lo:Nat} {p:Pl (n+1)} {vc vk vd:Value} (h:PlT n X lo p vc vk vd) (us:List Value):PlT n ((X.alloc (.cells z19.toArray 31)).setCells X.heap.size 0 us) lo p vc vk vd:=by
 obtain ⟨hi,x,q0⟩:=h;have hq:=q0.2.1;refine ⟨hi,x,(q0.step (World.grownBy_alloc X _ none) (fun k e=>by cases e)).step (q1M X.heap.size us 0 _) (fun k e=> ?_)⟩;simp only [Option.some.injEq] at e;subst e;exact .inr ⟨.inl hq,_,(z1X X z19 rfl).1⟩
theorem PlC.fresh {X:World} {n lo:Nat} {p:Pl (n+1)} {vc vk vd:Value} (h:PlC n X lo p vc vk vd) (us:List Value):PlC n ((X.alloc (.cells z19.toArray 31)).setCells X.heap.size 0 us) lo p vc vk vd:=by
 refine h.ag ((AgB.grown (World.grownBy_alloc X _ none) (Nat.le_refl _) fun k e=>by cases e).trans (AgB.grown (q1M X.heap.size us 0 _) (by simp) fun k e=> ?_));simp only [Option.some.injEq] at e;exact .inr (by omega)
theorem x1P.fresh {X:World} {b:Nat} {vs:List Value} (h:x1P X b vs) (us:List Value):x1P ((X.alloc (.cells z19.toArray 31)).setCells X.heap.size 0 us) b vs:=
 (h.grown (World.grownBy_alloc X _ none) (fun e=>by cases e)).grown (q1M X.heap.size us 0 _) (fun e=>by simp at e; have:=h.lt; omega)
theorem StR.fresh {w X:World} {g P:Nat} (h:StR w X g P) (hgw:g<w.heap.size) (us:List Value):StR w ((X.alloc (.cells z19.toArray 31)).setCells X.heap.size 0 us) g P:=
 (h.below hgw (z1B _)).new hgw (q1M _ _ _ _) (fun k e=>by simp at e; have:=h.2.2.lt; omega)
theorem StA.fresh {w X:World} {g P A m:Nat} {a:Pl (m+1)} {va ka da:Value} (h:StA w X g P A m a va ka da) (hgw:g<w.heap.size) (us:List Value):StA w ((X.alloc (.cells z19.toArray 31)).setCells X.heap.size 0 us) g P A m a va ka da:=
 ⟨h.1.fresh hgw us,h.2.1.fresh us,h.2.2.1.fresh us,h.2.2.2⟩
theorem StR.keep {w W X:World} {g P m:Nat} {a:Pl (m+1)} {va ka da:Value} (h:StR w X g P) (hgw:g<w.heap.size) (hp:PlT m X (W.heap.size+1) a va ka da) (hW:w.heap.size<=W.heap.size):StA w ((X.alloc (.cells z19.toArray 31)).setCells X.heap.size 0 (z1J a.nd va ka da)) g P X.heap.size m a va ka da:=
 ⟨h.fresh hgw _,(hp.lower (by omega)).fresh _,(z1X X z19 rfl).put _ rfl,h.2.2.lt⟩
def StB (w X:World) (g P A B m:Nat) (a:Pl (m+1)) (va ka da:Value) (b:Pl (m+1)) (vb kb db:Value):Prop:=StA w X g P A m a va ka da/\PlC m X (w.heap.size+1) b vb kb db/\x1P X B (z1J b.nd vb kb db)/\w.heap.size<B
theorem StB.call {w X Y:World} {g P P' A B m:Nat} {a b:Pl (m+1)} {va ka da vb kb db:Value} (h:StB w X g P A B m a va ka da b vb kb db) (hgw:g<w.heap.size) (hg:X.grownBy Y (some g)) (hr:Rd Y g P'):StB w Y g P' A B m a va ka da b vb kb db:=
 ⟨h.1.call hgw hg hr,h.2.1.step hg (fun k e=>by simp at e; omega),h.2.2.1.grown hg (fun e=>by simp at e; have:=h.2.2.2; omega),h.2.2.2⟩
theorem StB.below {w X Y:World} {g P A B m:Nat} {a b:Pl (m+1)} {va ka da vb kb db:Value} (h:StB w X g P A B m a va ka da b vb kb db) (hgw:g<w.heap.size) (hb:Below X.heap.size X Y):StB w Y g P A B m a va ka da b vb kb db:=
 ⟨h.1.below hgw hb,h.2.1.step (q1F hb none) (fun k e=>by cases e),h.2.2.1.grown (q1F hb none) (fun e=>by cases e),h.2.2.2⟩
theorem StA.keep {w W X:World} {g P A m:Nat} {a b:Pl (m+1)} {va ka da vb kb db:Value} (h:StA w X g P A m a va ka da) (hgw:g<w.heap.size) (hp:PlT m X (W.heap.size+1) b vb kb db) (hW:w.heap.size<=W.heap.size):StB w ((X.alloc (.cells z19.toArray 31)).setCells X.heap.size 0 (z1J b.nd vb kb db)) g P A X.heap.size m a va ka da b vb kb db:=
 ⟨h.fresh hgw _,(hp.held.lower (by omega)).fresh _,(z1X X z19 rfl).put _ rfl,h.1.2.2.lt⟩
theorem StA.one {w X:World} {g P A m:Nat} {a:Pl (m+1)} {va ka da:Value} (h:StA w X g P A m a va ka da) {K:Nat} (hK:x1P X K (z1J a.nd va ka da)) (hK0:w.heap.size<K) (d:Nd) (hc:d.cs=[]) (hk:d.ks=[]):PlT (m+1) X (w.heap.size+1) (Pl.mk d [a]) (.slice none 0 0) (.slice none 0 0) (.slice (some ⟨K,0,none⟩) 1 1):=by
 have hs:=h.1.2.2.lt;refine ⟨X.heap.size,0,by omega,Nat.le_refl _,q5P h.2.1.held (AgB.refl (Nat.le_refl _)) (by omega) hK.1 hK.lt (Nat.le_refl _) (.inl (by omega)),?_,?_⟩
 ·
  rw [Pl.nd_mk,hc]; exact World.ownsRow_nil _ _ _ _
 ·
  rw [Pl.nd_mk,hk]; exact World.ownsRow_nil _ _ _ _
theorem StA.two {w X:World} {g P A m:Nat} {a b:Pl (m+1)} {va ka da vb kb db:Value} (h:StA w X g P A m a va ka da) (hb:PlC m X (w.heap.size+1) b vb kb db) {K:Nat} (hK:X.heap[K]? = some (.cells (z1J a.nd va ka da++z1J b.nd vb kb db).toArray 31)) (hK0:w.heap.size<K) (d:Nd) (hc:d.cs=[]) (hk:d.ks=[]):PlT (m+1) X (w.heap.size+1) (Pl.mk d [a,b]) (.slice none 0 0) (.slice none 0 0) (.slice (some ⟨K,0,none⟩) 2 2):=by
 have hs:=h.1.2.2.lt;refine ⟨X.heap.size,0,by omega,Nat.le_refl _,kids_two h.2.1.held (AgB.refl (Nat.le_refl _)) hb (AgB.refl (Nat.le_refl _)) (by omega) hK (q2Q hK) (Nat.le_refl _) (Nat.le_refl _) (by omega),?_,?_⟩
 ·
  rw [Pl.nd_mk,hc]; exact World.ownsRow_nil _ _ _ _
 ·
  rw [Pl.nd_mk,hk]; exact World.ownsRow_nil _ _ _ _
theorem v3U {m:Nat} (d:Nd) (a:Pl (m+1)) (hc:d.cs.length<=5) (hk:d.ks.length<=1) {T:Nat} (ha:Pl.sz (m+1) a<=10*T) (hT:1<=T):Pl.sz (m+1+1) (Pl.mk d [a])<=10*(T*3):=by
 rw [Pl.sz_succ,Pl.nd_mk,Pl.kids_mk];simp only [List.length_cons,List.length_nil,List.map_cons,List.map_nil,List.sum_cons,List.sum_nil];omega
theorem q4T {m:Nat} (d:Nd) (a b:Pl (m+1)) (hc:d.cs=[]) (hk:d.ks=[]) {T:Nat} (ha:Pl.sz (m+1) a<=10*T) (hb:Pl.sz (m+1) b<=10*T) (hT:1<=T):Pl.sz (m+1+1) (Pl.mk d [a,b])<=10*(T*3):=by
 rw [Pl.sz_succ,Pl.nd_mk,Pl.kids_mk,hc,hk];simp only [List.length_cons,List.length_nil,List.map_cons,List.map_nil,List.sum_cons,List.sum_nil];omega
def StP (w X:World) (g P hi Pb n:Nat) (p:Pl (n+1)) (vc vk vd:Value):Prop:=StR w X g P/\PlH n X (w.heap.size+1) hi Pb p vc vk vd/\x1P X Pb (z1J p.nd vc vk vd)/\w.heap.size<Pb
theorem StP.call {w X Y:World} {g P P' hi Pb n:Nat} {p:Pl (n+1)} {vc vk vd:Value} (h:StP w X g P hi Pb n p vc vk vd) (hgw:g<w.heap.size) (hg:X.grownBy Y (some g)) (hr:Rd Y g P'):StP w Y g P' hi Pb n p vc vk vd:=
 ⟨h.1.call hgw hg hr,h.2.1.step hg (fun k e=>by simp at e; omega),h.2.2.1.grown hg (fun e=>by simp at e; have:=h.2.2.2; have:=h.2.1.1; omega),h.2.2.2⟩
theorem StP.below {w X Y:World} {g P hi Pb n:Nat} {p:Pl (n+1)} {vc vk vd:Value} (h:StP w X g P hi Pb n p vc vk vd) (hgw:g<w.heap.size) (hb:Below X.heap.size X Y):StP w Y g P hi Pb n p vc vk vd:=
 ⟨h.1.below hgw hb,h.2.1.step (q1F hb none) (fun k e=>by cases e),h.2.2.1.grown (q1F hb none) (fun e=>by cases e),h.2.2.2⟩
theorem StP.cell {w X Y:World} {g P hi Pb n:Nat} {p:Pl (n+1)} {vc vk vd vc':Value} (h:StP w X g P hi Pb n p vc vk vd) (hgw:g<w.heap.size) (hg:X.grownBy Y vc.ownBlock) (c:Cel) (ho:Y.ownsRow hi 24 4 vc' (p.nd.cs.length+1) (j2V p.nd.cs++[.int .i64 c.k,.int .i64 c.a,.int .i64 c.b,.int .i64 c.n])) :
  x1P Y Pb (z1J p.nd vc vk vd)/\x1P Y w.heap.size z19/\StP w (Y.setCell ⟨Pb,12,none⟩ vc') g P hi Pb n (Pl.mk { p.nd with cs:=p.nd.cs++[c] } p.kids) vc' vk vd:=by
 obtain ⟨hR,hH,hB,hP⟩:=h;have hlo:=hH.1;have hne:vc.ownBlock≠some Pb:=j2C hH.2.2.2.1 hB.1 (by decide);have hge:∀ k,vc.ownBlock=some k->hi<=k:=fun k e=>(hH.2.2.2.1.lt k e).1;have B1:=hB.grown hg hne;have R1:=hR.new hgw hg (fun k e=>by have:=hge k e; omega);have hs:=j1O Y Pb 12 vc';refine ⟨B1,R1.2.2,R1.new hgw hs (fun k e=>by simp at e; omega),(hH.cell hg c ho).step hs (fun k e=> ?_),B1.put1 12 vc',hP⟩;simp only [Option.some.injEq] at e;subst e;exact .inr ⟨.inr rfl,_,B1.1⟩
theorem StP.keys {w X Y:World} {g P hi Pb n:Nat} {p:Pl (n+1)} {vc vk vd vk':Value} (h:StP w X g P hi Pb n p vc vk vd) (hgw:g<w.heap.size) (hg:X.grownBy Y vk.ownBlock) (xs:List Int) (ho:Y.ownsRow hi 3 1 vk' (p.nd.ks.length+xs.length) (p.nd.ks.map (Value.int .i64)++xs.map (Value.int .i64))) :
  x1P Y Pb (z1J p.nd vc vk vd)/\x1P Y w.heap.size z19/\StP w (Y.setCell ⟨Pb,15,none⟩ vk') g P hi Pb n (Pl.mk { p.nd with ks:=p.nd.ks++xs } p.kids) vc vk' vd:=by
 obtain ⟨hR,hH,hB,hP⟩:=h;have hlo:=hH.1;have hne:vk.ownBlock≠some Pb:=j2C hH.2.2.2.2 hB.1 (by decide);have hge:∀ k,vk.ownBlock=some k->hi<=k:=fun k e=>(hH.2.2.2.2.lt k e).1;have B1:=hB.grown hg hne;have R1:=hR.new hgw hg (fun k e=>by have:=hge k e; omega);have hs:=j1O Y Pb 15 vk';refine ⟨B1,R1.2.2,R1.new hgw hs (fun k e=>by simp at e; omega),(hH.keys hg xs ho).step hs (fun k e=> ?_),B1.put1 15 vk',hP⟩;simp only [Option.some.injEq] at e;subst e;exact .inr ⟨.inr rfl,_,B1.1⟩
theorem StA.part {w X Y:World} {g P P' A m:Nat} {a:Pl (m+1)} {va ka da:Value} (h:StA w X g P A m a va ka da) (hY:StR w Y g P') (hXY:AgB (w.heap.size+1) X.heap.size X Y) {K Pb:Nat} (hK:x1P Y K (z1J a.nd va ka da)) (hK0:w.heap.size<K) (d:Nd) (hc:d.cs=[]) (hk:d.ks=[]) (hPb:X.heap.size<=Pb) (hne:K≠Pb) (hB:x1P Y Pb (z1J d (.slice none 0 0) (.slice none 0 0) (.slice (some ⟨K,0,none⟩) 1 1))) :
  StP w Y g P' Y.heap.size Pb (m+1) (Pl.mk d [a]) (.slice none 0 0) (.slice none 0 0) (.slice (some ⟨K,0,none⟩) 1 1):=by
 have hs:=h.1.2.2.lt;have hs2:=hY.2.2.lt;refine ⟨hY,⟨by omega,Nat.le_refl _,q5P h.2.1.held hXY (by omega) hK.1 hK.lt hXY.1 (.inr ⟨hPb,hne⟩),?_,?_⟩,hB,by omega⟩
 ·
  rw [Pl.nd_mk,hc]; exact World.ownsRow_nil _ _ _ _
 ·
  rw [Pl.nd_mk,hk]; exact World.ownsRow_nil _ _ _ _
theorem StA.part2 {w X V:World} {g P A m:Nat} {a:Pl (m+1)} {va ka da:Value} (h:StA w X g P A m a va ka da) (hgw:g<w.heap.size) (d:Nd) (hc:d.cs=[]) (hk:d.ks=[]) (hV:((X.alloc (.cells (z1J a.nd va ka da).toArray 31)).alloc (.cells z19.toArray 31)).setCells (X.heap.size+1) 0 (z1J d (.slice none 0 0) (.slice none 0 0) (.slice (some ⟨X.heap.size,0,none⟩) 1 1))=V) :
  StP w V g P V.heap.size (X.heap.size+1) (m+1) (Pl.mk d [a]) (.slice none 0 0) (.slice none 0 0) (.slice (some ⟨X.heap.size,0,none⟩) 1 1):=by
 have hs:=h.1.2.2.lt;have e1:(X.alloc (.cells (z1J a.nd va ka da).toArray 31)).heap.size=X.heap.size+1:=q1C _ _;have g1:X.grownBy ((X.alloc (.cells (z1J a.nd va ka da).toArray 31)).alloc (.cells z19.toArray 31)) none:=z1G (World.grownBy_alloc _ _ _) (World.grownBy_alloc _ _ _);have b1:x1P ((X.alloc (.cells (z1J a.nd va ka da).toArray 31)).alloc (.cells z19.toArray 31)) X.heap.size (z1J a.nd va ka da):=(z1X X _ rfl).grown (World.grownBy_alloc _ _ none) (fun e=>by cases e);have b2:=z1X (X.alloc (.cells (z1J a.nd va ka da).toArray 31)) z19 rfl;rw [e1] at b2;have g2:=q1M (X.heap.size+1) (z1J d (.slice none 0 0) (.slice none 0 0) (.slice (some ⟨X.heap.size,0,none⟩) 1 1)) 0 ((X.alloc (.cells (z1J a.nd va ka da).toArray 31)).alloc (.cells z19.toArray 31));subst hV;refine h.part ((h.1.new hgw g1 (fun k e=>by cases e)).new hgw g2 (fun k e=>by simp at e; omega)) ?_ (b1.past (by omega) rfl) hs d hc hk (by omega) (by omega) (b2.put _ rfl);refine (AgB.grown g1 (Nat.le_refl _) fun k e=>by cases e).trans (AgB.grown g2 g1.size fun k e=> ?_);simp only [Option.some.injEq] at e;exact .inr (by omega)
theorem kept_blk {X Y:World} {K g:Nat} {o:Obj} (h:X.heap[K]? = some o) (hg:X.grownBy Y (some g)) (hne:g≠K):Y.heap[K]? = some o:=(hg.block K (q2Q h) (fun e=>by simp at e; omega)).trans h
theorem infoC4:(Tryz.prog.info? 24).map (fun i=>(i.zero,i.size,i.bytes))=some (some (.agg #[.int .i64 0,.int .i64 0,.int .i64 0,.int .i64 0]),4,32):=by kernel_rfl
theorem x5P (w:World) (a b c d:Value):∀ j u,([a,b,c,d]:List Value)[j]? = some u->(w.alloc (.cells #[a,b,c,d] 24)).cell? ((⟨w.heap.size,0,none⟩:Addr).add j)=some u:=fun j u hj=>by
 match j,hj with
 | 0,hj=>simp at hj; subst hj; simp [Addr.add]
 | 1,hj=>simp at hj; subst hj; simp [Addr.add]
 | 2,hj=>simp at hj; subst hj; simp [Addr.add]
 | 3,hj=>simp at hj; subst hj; simp [Addr.add]
 | j+4,hj=>simp at hj
theorem one4 (a b c d:Int):∀ u∈([.int .i64 a,.int .i64 b,.int .i64 c,.int .i64 d]:List Value),u.oneCell'=true:=fun u hu=>by
 simp at hu
 rcases hu with rfl | rfl | rfl | rfl <;> rfl
theorem q1H {w:World} {base:Nat} {e:TypeId} {s:Nat} {v:Value} {n:Nat} {xs:List Value} (h:w.ownsRow base e s v n xs):∃ ua uc,v = .slice ua n uc:=by
 rcases h.2 with ⟨e,h0⟩ | ⟨g,c,cur,e,_⟩
 ·
  exact ⟨none,0,by rw [h0]; exact e⟩
 ·
  exact ⟨_,c,e⟩
theorem AgB.callG {lo s g:Nat} {w X Y:World} (h:AgB lo s w X) (hg:X.grownBy Y (some g)) (hl:g<lo):AgB lo s w Y:=h.trans (AgB.grown hg h.1 fun k e=>by simp at e; omega)
theorem AgB.allocG {lo s:Nat} {w X:World} (h:AgB lo s w X) (o:Obj):AgB lo s w (X.alloc o):=h.trans (AgB.grown (World.grownBy_alloc X o none) h.1 fun k e=>by cases e)
theorem x1P.allocG {X:World} {b:Nat} {vs:List Value} (h:x1P X b vs) (o:Obj):x1P (X.alloc o) b vs:=h.grown (World.grownBy_alloc X o none) (fun e=>by cases e)
theorem StA.part3 {w w5 X V:World} {g P5 P A m K Pb:Nat} {a:Pl (m+1)} {va ka da:Value} (h:StA w w5 g P5 A m a va ka da) (hgw:g<w.heap.size) (hS:StR w X g P) (hX:AgB (w.heap.size+1) w5.heap.size w5 X) (hK:x1P X K (z1J a.nd va ka da)) (hB:x1P X Pb z19) (hK0:w5.heap.size<=K) (hPb:w5.heap.size<=Pb) (hne:K≠Pb) (d:Nd) (hc:d.cs=[]) (hk:d.ks=[]) (hV:X.setCells Pb 0 (z1J d (.slice none 0 0) (.slice none 0 0) (.slice (some ⟨K,0,none⟩) 1 1))=V) :
  StP w V g P V.heap.size Pb (m+1) (Pl.mk d [a]) (.slice none 0 0) (.slice none 0 0) (.slice (some ⟨K,0,none⟩) 1 1):=by
 have hs:=h.1.2.2.lt;have g2:=q1M Pb (z1J d (.slice none 0 0) (.slice none 0 0) (.slice (some ⟨K,0,none⟩) 1 1)) 0 X;subst hV;refine h.part (hS.new hgw g2 (fun k e=>by simp at e; omega)) (hX.trans (AgB.grown g2 hX.1 fun k e=> ?_)) (hK.past hne rfl) (by omega) d hc hk hPb hne (hB.put _ rfl);simp only [Option.some.injEq] at e;exact .inr (by omega)
theorem StP.done {w X:World} {g P hi Pb n:Nat} {p:Pl (n+1)} {vc vk vd:Value} (h:StP w X g P hi Pb n p vc vk vd):PlT n X (w.heap.size+1) p vc vk vd:=⟨hi,Pb,h.2.1⟩
theorem j2I (d:Nd) (vc vk vd:Value):(Tryz.prog.info? 31).map (·.size)=some (z1J d vc vk vd).length:=by kernel_rfl
theorem PlC.ones {n:Nat} {w:World} {lo:Nat} {p:Pl (n+1)} {vc vk vd:Value} (h:PlC n w lo p vc vk vd):vc.oneCell'=true/\vk.oneCell'=true/\vd.oneCell'=true:=by
 obtain ⟨⟨_,ca,cc,rfl,_⟩,⟨_,ka,kc,rfl,_⟩,⟨_,da,dc,rfl,_⟩⟩:=h.now;exact ⟨rfl,rfl,rfl⟩
theorem StR.told {w X W:World} {g P P' n:Nat} {p:Pl (n+1)} {vc vk vd:Value} (h:StR w X g P) (hgw:g<w.heap.size) (hp:PlT n X (w.heap.size+1) p vc vk vd) (hP:P<=P') (hW:X.setCells w.heap.size 0 (z1J p.nd vc vk vd)=W) :
  x1P W w.heap.size (z1J p.nd vc vk vd)/\Rd W g P'/\w.grownBy W (some g)/\PlT n W (w.heap.size+1) p vc vk vd:=by
 subst hW;have f:=h.fin hgw hp (z1J p.nd vc vk vd);exact ⟨h.2.2.put _ rfl,f.1.le hP,f.2.1,f.2.2⟩
theorem StR.keepW {w W V X:World} {g P m:Nat} {a:Pl (m+1)} {va ka da:Value} (h:StR w X g P) (hgw:g<w.heap.size) (hp:PlT m X (W.heap.size+1) a va ka da) (hW:w.heap.size<=W.heap.size) (hV:(X.alloc (.cells z19.toArray 31)).setCells X.heap.size 0 (z1J a.nd va ka da)=V):StA w V g P X.heap.size m a va ka da:=by
 subst hV;exact h.keep hgw hp hW
theorem StA.keepW {w W V X:World} {g P A m:Nat} {a b:Pl (m+1)} {va ka da vb kb db:Value} (h:StA w X g P A m a va ka da) (hgw:g<w.heap.size) (hp:PlT m X (W.heap.size+1) b vb kb db) (hW:w.heap.size<=W.heap.size) (hV:(X.alloc (.cells z19.toArray 31)).setCells X.heap.size 0 (z1J b.nd vb kb db)=V):StB w V g P A X.heap.size m a va ka da b vb kb db:=by
 subst hV;exact h.keep hgw hp hW
def v4B (n:Nat):Prop:=∀ (p:Pl (n+1)) (vc vk vd:Value) (w:World),q1X (NodeAt n) w p.nd p.kids vc vk vd->Pl.sz (n+1) p<=1048576 →
 Calls Tryz.prog 95 #[.agg (z1J p.nd vc vk vd).toArray] w fun e w'=> ∃ vc' vk' vd',e = .returned (.agg (z1J p.nd vc' vk' vd').toArray)/\PlC n w' w.heap.size p vc' vk' vd'/\Below w.heap.size w w'
def z5N (n:Nat):Prop:=∀ (g P:Nat) (deep:Int) (w:World),deep<=n+1->-9<=deep->deep<=1000->3 ^ n<=1000->P+1000*3 ^ n<=1099511000000->Rd w g P →
 Calls Tryz.prog 50 #[.pointer (some ⟨g,0,none⟩),.int .i64 deep] w fun e w'=> ∃ (p:Pl (n+1)) (vc vk vd:Value) (wd:Int),e = .returned (.tuple #[.agg (z1J p.nd vc vk vd).toArray,.int .i64 wd])/\1<=wd/\wd<=6/\Pl.sz (n+1) p<=10*3 ^ n/\PlT n w' (w.heap.size+1) p vc vk vd/\Rd w' g (P+1000*3 ^ n)/\w.grownBy w' (some g)
theorem x6C {w:World} {b off:Nat} {cs:List Cel} (h:∀ j,j<cs.length->x3S w b (off+j*4) (cs.getD j Cel.zero)):∀ j u,(j2V cs)[j]? = some u->w.cell? ((⟨b,off,none⟩:Addr).add j)=some u:=by
 intro j u hu;have hj:j<cs.length*4:=by have:=(List.getElem?_eq_some_iff.1 hu).1; rwa [j5B] at this
 obtain ⟨q,r,hr,rfl⟩:∃ q r,r<4/\j=q*4+r:=⟨j / 4,j % 4,Nat.mod_lt _ (by omega),by omega⟩;have hq:q<cs.length:=by omega
 obtain ⟨e0,e1,e2,e3⟩:=celW_at cs q hq;obtain ⟨c0,c1,c2,c3⟩:=h q hq;rw [Addr.add_lit];match r,hr with
 | 0,_=>rw [Nat.add_zero] at hu ⊢; rw [e0] at hu; rw [<-hu]; exact c0
 | 1,_=>rw [e1] at hu; rw [<-hu,<-Nat.add_assoc]; exact c1
 | 2,_=>rw [e2] at hu; rw [<-hu,<-Nat.add_assoc]; exact c2
 | 3,_=>rw [e3] at hu; rw [<-hu,<-Nat.add_assoc]; exact c3
theorem k2C {P:Program} {w:World} {ops:Array Oper} {rest:List Oper} {o:Oper} {a:Act} {Q:Exit->Act->World->Prop} (hgd:o.guard=none) (s x:Operand) (t:TypeId)
  (ho:o.op = .call { callee:=.builtin .append,args:=#[s,x],argTypes:=#[t,t] })
  (base:Nat) (e:TypeId) (i:TypeInfo) (ht:P.underlying t=some (.slice e)) (hi:P.info? e=some i) (hz:i.zero=some (.agg #[.int .i64 0,.int .i64 0,.int .i64 0,.int .i64 0]))
  (hsize:i.size=4) (hby:i.bytes=32)
  (v:Value) (n:Nat) (xs:List Value) (hs:a.eval s=v) (hown:w.ownsRow base e 4 v n xs)
  (vx:Value) (src:List Cel) (hx:a.eval x=vx) (hsrc:q1J w vx src)
  (hbytes:(n+src.length)*32<=140737488355328) (hbase:base<=w.heap.size)
  (h:∀ v' w',w'.ownsRow base e 4 v' (n+src.length) (xs++j2V src)->w.grownBy w' v.ownBlock->wpList P ops Q rest (a.put o.dst v') w'):wpList P ops Q (o :: rest) a w:=by
 obtain ⟨hl,ad,cap,rfl,hnone,hc⟩:=hsrc;cases ad with
 | none=>
  have hsrc:src=[]:=by
   by_cases h0:src=[]
   ·
    exact h0
   ·
    obtain ⟨b,off,hh,_⟩:=hc h0;simp at hh
  subst hsrc;have hcap:=hnone rfl;subst hcap;refine wpList_append_own_none hgd s x t ho base e i 4 ht hi v n xs hs hown hx ?_;exact h v w (by simpa [j2V] using hown) (v1U _ _)
 | some ad=>
  have hnews:∀ j u,(j2V src)[j]? = some u->w.cell? (ad.add j)=some u:=by
   by_cases h0:src=[]
   ·
    subst h0; intro j u hu; simp [j2V] at hu
   ·
    obtain ⟨b,off,hh,_,hcell⟩:=hc h0;simp only [Option.some.injEq] at hh;subst hh;exact x6C hcell
  refine wpList_append_own w hgd s x t ho base e i _ 4 32 ht hi hz hsize hby rfl (by decide) v n xs hs hown ad src.length cap (j2V src) hx (j5B src) hnews (celW_one src) (by unfold maxLen; omega) hbytes hbase ?_;intro v' w' h1 h2 _;exact h v' w' h1 h2
theorem j2X {P:Program} {o:Oper} {a:Act} {w:World} {K:Act->World->Prop} {Q:Exit->Act->World->Prop} (s x:Operand) (t:TypeId) (hop:o.op=Op.call { callee:=Callee.builtin Builtin.append,args:=#[s,x],argTypes:=#[t,t] })
  (base:Nat) (e:TypeId) (i:TypeInfo) (z:Value) (size bytes:Nat) (ht:P.underlying t=some (.slice e)) (hi:P.info? e=some i) (hz:i.zero=some z) (hsize:i.size=size) (hby:i.bytes=bytes) (hzs:z.cells.size=size) (hsz:0<size)
  (v:Value) (n:Nat) (xs:List Value) (hs:a.eval s=v) (hown:w.ownsRow base e size v n xs) (ad:Addr) (m c:Nat) (news:List Value) (hx:a.eval x = .slice (some ad) m c) (hl:news.length=m*size) (hnews:∀ j u,news[j]? = some u->w.cell? (ad.add j)=some u) (h1:∀ u∈news,u.oneCell'=true)
  (h63:n+m<=maxLen) (hbytes:(n+m)*bytes<=140737488355328) (hbase:base<=w.heap.size)
  (hK:∀ v' w',w'.ownsRow base e size v' (n+m) (xs++news)->w.grownBy w' v.ownBlock->(v'.ownBlock=v.ownBlock\/v'.ownBlock=some w.heap.size)->K (a.put o.dst v') w'):Oper.wp P o a w K Q:=by
 obtain ⟨v',w',hrun,r1,r2,_,r3⟩:=run_append_own_at (P:=P) w base t o.type e i z size bytes ht hi hz hsize hby hzs hsz v n xs hown ad m c news hl hnews h1 h63 hbytes hbase;unfold Oper.wp;simp [execOp,hop,resolve,invoke,builtin,hs,hx,hrun,Result.andThen];exact hK v' w' r1 r2 r3
def Kid1:(n:Nat)->World->Nat->Value->List Value->Nat->Pl n->Prop
 | 0=>fun _ _ _ _ _ _=>False
 | m+1=>fun X B vd fl j x=> ∃ vc vk vd' lo hi,(∀ i u,(z1J x.nd vc vk vd')[i]? = some u->fl[j*19+i]? = some u)/\B<=lo/\hi<=X.heap.size/\(∀ b,vd.ownBlock=some b->b<lo\/hi<=b)/\∀ Y,AgB lo hi X Y->q1X (NodeAt m) Y x.nd x.kids vc vk vd'
def j2R (n:Nat) (X:World) (B:Nat) (vd:Value) (l:List (Pl n)):Prop:=∃ fl,X.ownsRow B 31 19 vd l.length fl/\∀ j (hj:j<l.length),Kid1 n X B vd fl j l[j]
theorem j2R.empty (n:Nat) (X:World) (B:Nat):j2R n X B (.slice none 0 0) ([]:List (Pl n)):=⟨[],World.ownsRow_nil _ _ _ _,fun j hj=>by simp at hj⟩
theorem Kid1.step:∀ {n:Nat} {X Y:World} {B:Nat} {vd:Value} {fl:List Value} {j:Nat} {x:Pl n} {row:Option Nat},Kid1 n X B vd fl j x->X.grownBy Y row->(∀ k,row=some k->k<B)->Kid1 n Y B vd fl j x
 | 0,_,_,_,_,_,_,_,_,h,_,_=>h.elim
 | m+1,X,Y,B,vd,fl,j,x,row,h,hg,hr=>by
  obtain ⟨vc,vk,vd',lo,hi,h1,h2,h3,h4,h5⟩:=h
  exact ⟨vc,vk,vd',lo,hi,h1,h2,Nat.le_trans h3 hg.size,h4,fun Z hZ=>h5 Z ((AgB.grown hg h3 fun k e=> .inl (Nat.lt_of_lt_of_le (hr k e) h2)).trans hZ)⟩
theorem j2R.step {n:Nat} {X Y:World} {B:Nat} {vd:Value} {l:List (Pl n)} {row:Option Nat} (h:j2R n X B vd l) (hg:X.grownBy Y row) (hr:∀ k,row=some k->k<B):j2R n Y B vd l:=by
 obtain ⟨fl,h1,h2⟩:=h;refine ⟨fl,h1.kept hg ?_,fun j hj=>(h2 j hj).step hg hr⟩;cases hv:vd.ownBlock with
 | none=>exact .inl rfl
 | some b=>exact .inr fun e=>by have:=(h1.lt b hv).1; have:=hr b e.symm; omega
theorem j2R.push {m:Nat} {X X1 Y:World} {B:Nat} {vd vd' yc yk yd:Value} {l:List (Pl (m+1))} {x:Pl (m+1)} {fl:List Value} (h1:X.ownsRow B 31 19 vd l.length fl) (h2:∀ j (hj:j<l.length),Kid1 (m+1) X B vd fl j l[j]) (hB:B<=X.heap.size) (hb:Below X.heap.size X X1) (hx:PlC m X1 X.heap.size x yc yk yd)
  (ho:Y.ownsRow B 31 19 vd' (l.length+1) (fl++z1J x.nd yc yk yd)) (hg:(X1.alloc (.cells (z1J x.nd yc yk yd).toArray 31)).grownBy Y vd.ownBlock) (hat:vd'.ownBlock=vd.ownBlock\/vd'.ownBlock=some (X1.alloc (.cells (z1J x.nd yc yk yd).toArray 31)).heap.size):j2R (m+1) Y B vd' (l++[x]):=by
 have hfl:fl.length=l.length*19:=h1.1;have hs1:=hb.size;have hsz:(X1.alloc (.cells (z1J x.nd yc yk yd).toArray 31)).heap.size=X1.heap.size+1:=q1C _ _;rw [hsz] at hat;have hblk:∀ b,vd.ownBlock=some b->b<X.heap.size:=fun b e=>(h1.lt b e).2;have hgs:=hg.size;rw [hsz] at hgs;have g1:X1.grownBy (X1.alloc (.cells (z1J x.nd yc yk yd).toArray 31)) none:=World.grownBy_alloc _ _ _;refine ⟨fl++z1J x.nd yc yk yd,by rw [List.length_append]; exact ho,fun j hj=> ?_⟩;by_cases hlt:j<l.length
 ·
  rw [List.getElem_append_left hlt];obtain ⟨vc,vk,ve,lo,hi,e1,e2,e3,e4,e5⟩:=h2 j hlt;refine ⟨vc,vk,ve,lo,hi,fun i u hu=> ?_,e2,by omega,fun b e=> ?_,fun Z hZ=>e5 Z ?_⟩
  ·
   have hi19:i<19:=(List.getElem?_eq_some_iff.1 hu).1;rw [List.getElem?_append_left (by omega)];exact e1 i u hu
  ·
   rcases hat with k | k
   ·
    exact e4 b (by rw [<-k]; exact e)
   ·
    rw [k] at e; simp at e; omega
  ·
   exact ((AgB.of_below hb e3).trans (AgB.grown g1 (by omega) fun k e=>by cases e)).trans ((AgB.grown hg (by omega) fun k e=>e4 k e).trans hZ)
 ·
  have hj':j=l.length:=by rw [List.length_append] at hj; simp at hj; omega
  subst hj';rw [List.getElem_append_right (Nat.le_refl _)];simp only [Nat.sub_self,List.getElem_cons_zero];refine ⟨yc,yk,yd,X.heap.size,X1.heap.size,fun i u hu=> ?_,hB,by omega,fun b e=> ?_,fun Z hZ=>hx Z ?_⟩
  ·
   rw [List.getElem?_append_right (by omega),hfl,Nat.add_sub_cancel_left];exact hu
  ·
   rcases hat with k | k
   ·
    rw [k] at e; exact .inl (hblk b e)
   ·
    rw [k] at e; simp at e; omega
  ·
   exact (AgB.grown g1 (Nat.le_refl _) fun k e=>by cases e).trans ((AgB.grown hg (by omega) fun k e=> .inl (hblk k e)).trans hZ)
theorem j2R.kids {n:Nat} {X:World} {B:Nat} {vd:Value} {l:List (Pl n)} (h:j2R n X B vd l):∀ Y,AgB B X.heap.size X Y->v2X (NodeAt n) Y vd l:=by
 obtain ⟨fl,h1,h2⟩:=h;intro Y hY;have ho:Y.ownsRow B 31 19 vd l.length fl:=v2S h1 fun k e=>hY.2 k (h1.lt k e).1 (h1.lt k e).2;rcases h1.2 with ⟨rfl,h0⟩ | ⟨g,cap,cur,rfl,hb,hg,hc,hm,_⟩
 ·
  have:l=[]:=List.length_eq_zero_iff.1 h0;subst this;exact x4E n Y
 ·
  unfold maxLen at hm;refine ⟨by omega,_,cap,rfl,fun e=>(by cases e),fun _=>⟨g,0,rfl,(ho.lt g rfl).2,fun j hj=> ?_⟩⟩;have hk:=h2 j hj;cases n with
  | zero=>exact hk.elim
  | succ m=>
   obtain ⟨vc,vk,ve,lo,hi,e1,e2,e3,e4,e5⟩:=hk;refine ⟨(ho.lt g rfl).2,vc,vk,ve,x2O.of fun i u hu=> ?_,e5 Y (hY.mono e2 e3)⟩;have hi19:i<19:=(List.getElem?_eq_some_iff.1 hu).1;rw [Nat.zero_add];exact (ho.cellAt _ (by omega)).trans (e1 i u hu)
theorem cp_start {w V:World} {L:List Value} (hL:L.length=19) (hV:(((w.alloc (.cells L.toArray 31)).alloc (.cells z19.toArray 31)).alloc (.cells z19.toArray 31)).setCells (w.heap.size+1+1) 0 L=V) :
  Below w.heap.size w V/\x1P V w.heap.size L/\x1P V (w.heap.size+1) z19/\x1P V (w.heap.size+1+1) L:=by
 have b1:=((z1X w L hL).allocG (.cells z19.toArray 31)).allocG (.cells z19.toArray 31);have b2:=(z1X (w.alloc (.cells L.toArray 31)) z19 rfl).allocG (.cells z19.toArray 31);have b3:=z1X ((w.alloc (.cells L.toArray 31)).alloc (.cells z19.toArray 31)) z19 rfl;rw [q1C] at b2;rw [q1C,q1C] at b3;have hb:=z1A (z1A (z1B (w:=w) (.cells L.toArray 31)) (z1B (.cells z19.toArray 31))) (z1B (.cells z19.toArray 31));subst hV;exact ⟨hb.grown (q1M _ _ _ _) hb.size (fun k e=>by simp at e; omega),b1.past (by omega) rfl,b2.past (by omega) rfl,b3.put _ hL⟩
def CpB (w X:World) (L L':List Value):Prop:=Below w.heap.size w X/\x1P X w.heap.size L/\x1P X (w.heap.size+1) z19/\x1P X (w.heap.size+1+1) L'
theorem CpB.grow {w X Y:World} {L L':List Value} {row:Option Nat} (h:CpB w X L L') (hg:X.grownBy Y row) (hr:∀ k,row=some k->w.heap.size+1+1<k):CpB w Y L L':=
 ⟨h.1.grown hg h.1.size (fun k e=>by have:=hr k e; omega),h.2.1.grown hg (fun e=>by have:=hr _ e; omega),h.2.2.1.grown hg (fun e=>by have:=hr _ e; omega),h.2.2.2.grown hg (fun e=>by have:=hr _ e; omega)⟩
theorem CpB.below {w X Y:World} {L L':List Value} (h:CpB w X L L') (hb:Below X.heap.size X Y):CpB w Y L L':=h.grow (q1F hb none) (fun k e=>by cases e)
theorem CpB.set {w X:World} {L L':List Value} (h:CpB w X L L') (j:Nat) (u:Value):CpB w (X.setCell ⟨w.heap.size+1+1,j,none⟩ u) L (L'.set j u):=
 have hg:=j1O X (w.heap.size+1+1) j u
 ⟨h.1.grown hg h.1.size (fun k e=>by simp only [Option.some.injEq] at e; omega),h.2.1.grown hg (fun e=>by simp only [Option.some.injEq] at e; omega),h.2.2.1.grown hg (fun e=>by simp only [Option.some.injEq] at e; omega),h.2.2.2.put1 j u⟩
theorem q6A (w:World) (L:List Value):∀ j u,L[j]? = some u->(w.alloc (.cells L.toArray 31)).cell? ((⟨w.heap.size,0,none⟩:Addr).add j)=some u:=fun j u hu=>by
 rw [Addr.add_lit,Nat.zero_add]
 exact cell_at (alloc_at _ _) (by simpa using hu)
theorem z6R (d:Nd) (vc vk vd:Value) (h1:vc.oneCell'=true) (h2:vk.oneCell'=true) (h3:vd.oneCell'=true):∀ v∈z1J d vc vk vd,v.oneCell'=true:=fun v hv=>by
 simp only [z1J,List.mem_cons,List.not_mem_nil,or_false] at hv
 rcases hv with rfl | rfl | rfl | rfl | rfl | rfl | rfl | rfl | rfl | rfl | rfl | rfl | rfl | rfl | rfl | rfl | rfl | rfl | rfl <;> first | rfl | assumption
theorem set_sz (w:World) (a:Addr) (u:Value):(w.setCell a u).heap.size=w.heap.size:=by simp [World.setCell]
theorem j2E {X:World} {B O j:Nat} {e:TypeId} {s n:Nat} {v u:Value} {xs:List Value} (h:X.ownsRow B e s v n xs) (hO:O<B):(X.setCell ⟨O,j,none⟩ u).ownsRow B e s v n xs:=h.kept (j1O X O j u) (by
 cases hv:v.ownBlock with
 | none=>exact .inl rfl
 | some b=>exact .inr fun e=>by simp only [Option.some.injEq] at e; have:=(h.lt b hv).1; omega)
theorem v1Y {X Y:World} {B:Nat} {e:TypeId} {s n:Nat} {v:Value} {xs:List Value} (h:X.ownsRow B e s v n xs) (hb:Below X.heap.size X Y):Y.ownsRow B e s v n xs:=h.kept (q1F hb none) (by cases hv:v.ownBlock <;> simp)
theorem z4J {X Y:World} {B B':Nat} {e e':TypeId} {s s' n n':Nat} {v v':Value} {xs xs':List Value} (h:X.ownsRow B e s v n xs) (h':X.ownsRow B' e' s' v' n' xs') (he:(e'==e)=false) (hg:X.grownBy Y v'.ownBlock):Y.ownsRow B e s v n xs:=h.kept hg (by
 cases hv:v.ownBlock with
 | none=>exact .inl rfl
 | some b=>
  refine .inr fun e2=> ?_
  rcases h'.2 with ⟨rfl,_⟩ | ⟨g,cap,cur,rfl,_,hgg,_⟩
  ·
   simp [Value.ownBlock] at e2
  ·
   simp only [Value.ownBlock,Option.some.injEq] at e2;subst e2;exact j2C h hgg he hv)
def CpSt (w X:World) (n:Nat) (p:Pl (n+1)) (L:List Value) (vc vk vd:Value) (k:Nat):Prop:=
 CpB w X L (z1J p.nd vc vk vd)/\X.ownsRow (w.heap.size+1+1+1) 24 4 vc p.nd.cs.length (j2V p.nd.cs)/\X.ownsRow (w.heap.size+1+1+1) 3 1 vk p.nd.ks.length (p.nd.ks.map (Value.int .i64))/\j2R n X (w.heap.size+1+1+1) vd (p.kids.take k)
theorem CpSt.below {w X Y:World} {n:Nat} {p:Pl (n+1)} {L:List Value} {vc vk vd:Value} {k:Nat} (h:CpSt w X n p L vc vk vd k) (hb:Below X.heap.size X Y):CpSt w Y n p L vc vk vd k:=
 ⟨h.1.below hb,v1Y h.2.1 hb,v1Y h.2.2.1 hb,h.2.2.2.step (q1F hb none) (fun k e=>by cases e)⟩
theorem CpSt.push {w X X1 Y:World} {m:Nat} {p:Pl (m+1+1)} {L:List Value} {vc vk vd vd' yc yk yd:Value} {k:Nat} {x:Pl (m+1)} (h:CpSt w X (m+1) p L vc vk vd k) {fl:List Value} (h1:X.ownsRow (w.heap.size+1+1+1) 31 19 vd (p.kids.take k).length fl) (h2:∀ j (hj:j<(p.kids.take k).length),Kid1 (m+1) X (w.heap.size+1+1+1) vd fl j (p.kids.take k)[j]) (hk:k<p.kids.length) (hxk:x=p.kids[k]) (hb:Below X.heap.size X X1) (hx:PlC m X1 X.heap.size x yc yk yd)
  (ho:Y.ownsRow (w.heap.size+1+1+1) 31 19 vd' ((p.kids.take k).length+1) (fl++z1J x.nd yc yk yd)) (hg:(X1.alloc (.cells (z1J x.nd yc yk yd).toArray 31)).grownBy Y vd.ownBlock) (hat:vd'.ownBlock=vd.ownBlock\/vd'.ownBlock=some (X1.alloc (.cells (z1J x.nd yc yk yd).toArray 31)).heap.size) :
  x1P Y (w.heap.size+1+1) (z1J p.nd vc vk vd)/\CpSt w (Y.setCell ⟨w.heap.size+1+1,18,none⟩ vd') (m+1) p L vc vk vd' (k+1):=by
 have hB:w.heap.size+1+1+1<=X.heap.size:=h.1.2.2.2.lt;have hrow:∀ b,vd.ownBlock=some b->w.heap.size+1+1<b:=fun b e=>(h1.lt b e).1;have hS:=(h.below hb).below (z1B (.cells (z1J x.nd yc yk yd).toArray 31));have h1':=v1Y (v1Y h1 hb) (z1B (.cells (z1J x.nd yc yk yd).toArray 31));have hK:=j2R.push h1 h2 hB hb hx ho hg hat;have ht:p.kids.take (k+1)=p.kids.take k++[x]:=by rw [hxk]; exact List.take_succ_eq_append_getElem hk
 have hC:=hS.1.grow hg hrow;refine ⟨hC.2.2.2,hC.set 18 vd',j2E (z4J hS.2.1 h1' (by decide) hg) (by omega),j2E (z4J hS.2.2.1 h1' (by decide) hg) (by omega),?_⟩;rw [ht];exact hK.step (j1O Y (w.heap.size+1+1) 18 vd') (fun k e=>by simp at e; omega)
theorem CpSt.done {w X W:World} {n:Nat} {p:Pl (n+1)} {L:List Value} {vc vk vd:Value} {k:Nat} (h:CpSt w X n p L vc vk vd k) (hk:p.kids.take k=p.kids) (hW:X.setCells (w.heap.size+1) 0 (z1J p.nd vc vk vd)=W):x1P W (w.heap.size+1) (z1J p.nd vc vk vd)/\PlC n W w.heap.size p vc vk vd/\Below w.heap.size w W:=by
 have hg:=q1M (w.heap.size+1) (z1J p.nd vc vk vd) 0 X;subst hW;obtain ⟨hB,hc,hi,hK⟩:=h;rw [hk] at hK;refine ⟨hB.2.2.1.put _ rfl,fun Y hY=>⟨q1J.of_owns (v2S hc fun k e=> ?_),RawInts.of_owns (v2S hi fun k e=> ?_),hK.kids Y ?_⟩,hB.1.grown hg hB.1.size (fun k e=>by simp at e; omega)⟩
 ·
  have:=hc.lt k e;exact (hY.2 k (by omega) (Nat.lt_of_lt_of_le this.2 hg.size)).trans (hg.block k this.2 (fun e=>by simp at e; omega))
 ·
  have:=hi.lt k e;exact (hY.2 k (by omega) (Nat.lt_of_lt_of_le this.2 hg.size)).trans (hg.block k this.2 (fun e=>by simp at e; omega))
 ·
  exact ⟨Nat.le_trans hg.size hY.1,fun i h1 h2=>(hY.2 i (by omega) (Nat.lt_of_lt_of_le h2 hg.size)).trans (hg.block i h2 (fun e=>by simp at e; omega))⟩
theorem j3W (n:Nat) (IH:∀ m,n=m+1->v4B m):v4B n:=by
 intro p vc vk vd w hp hz;obtain ⟨hcs,hks,hkd⟩:=hp;have HCS:=hidden hcs;have HKS:=hidden hks;have HKD:=hidden hkd;obtain ⟨-,ca,cc,rfl,-⟩:=id hcs;obtain ⟨-,ka,kc,rfl,-⟩:=id hks;obtain ⟨-,da,dc,rfl,-⟩:=id hkd;have HIH:=hidden IH;have hsz:=Pl.sz_succ p;have hlc:p.nd.cs.length<=1048576:=by omega
 have hlk:p.nd.ks.length<=1048576:=by omega
 have hln:p.kids.length<=1048576:=by omega
 clear hcs hks hkd IH;obtain ⟨i0,hi0,hz0,hz1,hz2⟩:=info_parts infoC4;obtain ⟨j0,hj0,hy0,hy1,hy2⟩:=info_parts infoInt;have hla:(Tryz.prog.info? 31).map (·.size)=some (p19 p ca cc ka kc da dc).length:=by kernel_rfl
 have hii:(Tryz.prog.info? 31).map (·.size)=some (p19 p ca cc ka kc da dc).toArray.size:=by kernel_rfl
 have H1:Hid ((p19 p ca cc ka kc da dc).toArray.all (·.oneCell')=true):=j1W p.nd _ _ _ rfl rfl rfl;have HTH:Hid ((((w.alloc (.cells (p19 p ca cc ka kc da dc).toArray 31)).alloc (.cells o19.toArray 31)).alloc (.cells o19.toArray 31)).there (w.heap.size+1+1) 0 (p19 p ca cc ka kc da dc).toArray.size):=by
  have b3:=z1X ((w.alloc (.cells (p19 p ca cc ka kc da dc).toArray 31)).alloc (.cells z19.toArray 31)) z19 rfl;rw [q1C,q1C] at b3;exact b3.there
 have HRA:Hid (((w.alloc (.cells (p19 p ca cc ka kc da dc).toArray 31)).alloc (.cells o19.toArray 31)).rangeAt w.heap.size 0 (p19 p ca cc ka kc da dc)):=((z1X w (p19 p ca cc ka kc da dc) rfl).allocG _).range;go_enter Tryz.func95,Tryz.ntmps95;go_wp2_with (first | ((with_reducible refine wpList_store_mid rfl 31 (.tmp 3) (.tmp 5) rfl (w.heap.size+1+1) 0 (p19 p ca cc ka kc da dc).toArray ?_ ?_ HTH.out hii H1.out ?_); rfl; rfl; generalize hW9:World.setCells _ _ _ _=W9; have HS9:=hidden (cp_start (L:=(p19 p ca cc ka kc da dc)) rfl hW9); (have g12:(W9.alloc (.cells #[] 24)).cell? ⟨w.heap.size,12,none⟩=some (.slice ca p.nd.cs.length cc):=(HS9.out.2.1.allocG _).cell (j:=12) rfl); (have HC0:Hid ((W9.alloc (.cells #[] 24)).ownsRow (w.heap.size+1+1+1) 24 4 (.slice (some ⟨W9.heap.size,0,none⟩) 0 0) 0 []):=World.ownsRow_lit W9 #[] 0 HS9.out.2.2.2.lt (by unfold maxLen; omega) rfl); (have hs9:w.heap.size+1+1<W9.heap.size:=HS9.out.2.2.2.lt)) | ((with_reducible refine wpList_load_mid rfl 31 (.tmp 1) rfl w.heap.size 0 ?_ (p19 p ca cc ka kc da dc) _ HRA.out Tryz.underlying31 ?_ hla ?_); rfl; rfl) | (at_builtin; refine k2C rfl (.tmp 6) (.tmp 8) 27 rfl (w.heap.size+1+1+1) 24 i0 Tryz.underlying27 hi0 hz0 hz1 hz2 (.slice (some ⟨W9.heap.size,0,none⟩) 0 0) 0 [] rfl HC0.out (.slice ca p.nd.cs.length cc) p.nd.cs rfl (HCS.out.below (z1A HS9.out.1 (z1B _))) (by omega) (by simp; omega) ?_; intro vc' W3 hown3 hgrow3; rw [Nat.zero_add,List.nil_append] at hown3; obtain ⟨c1,d1,rfl⟩:=q1H hown3; (have HB3:Hid (CpB w W3 (p19 p ca cc ka kc da dc) (p19 p ca cc ka kc da dc)):=CpB.grow (CpB.below HS9.out (z1B _)) hgrow3 (fun k e=>by simp [Value.ownBlock] at e; omega)); (have HO3:=hidden hown3); (have c12:=HB3.out.2.2.2.cell (j:=12) rfl); (have f12:=HB3.out.2.2.2.frozen 12); (have HB4:Hid (CpB w (W3.setCell ⟨(w.heap.size+1+1),12,none⟩ (.slice c1 p.nd.cs.length d1)) (p19 p ca cc ka kc da dc) (p19 p c1 d1 ka kc da dc)):=HB3.out.set 12 _); (have HO4:=hidden (j2E (O:=(w.heap.size+1+1)) (j:=12) (u:=(.slice c1 p.nd.cs.length d1)) HO3.out (by omega))); (have g15:((W3.setCell ⟨(w.heap.size+1+1),12,none⟩ (.slice c1 p.nd.cs.length d1)).alloc (.cells #[] 3)).cell? ⟨w.heap.size,15,none⟩=some (.slice ka p.nd.ks.length kc):=(HB4.out.2.1.allocG _).cell (j:=15) rfl); (have HK0:Hid (((W3.setCell ⟨(w.heap.size+1+1),12,none⟩ (.slice c1 p.nd.cs.length d1)).alloc (.cells #[] 3)).ownsRow (w.heap.size+1+1+1) 3 1 (.slice (some ⟨W3.heap.size,0,none⟩) 0 0) 0 []):=(by have h:=World.ownsRow_lit (base:=(w.heap.size+1+1+1)) (e:=3) (size:=1) (W3.setCell ⟨(w.heap.size+1+1),12,none⟩ (.slice c1 p.nd.cs.length d1)) #[] 0 HB4.out.2.2.2.lt (by unfold maxLen; omega) rfl; rw [set_sz] at h; exact h)); (have hs4:w.heap.size+1+1<W3.heap.size:=HB3.out.2.2.2.lt); clear hown3 hgrow3) | (at_builtin; refine z1Q rfl (.tmp 11) (.tmp 13) 28 rfl (w.heap.size+1+1+1) 3 j0 Tryz.underlying28 hj0 hy0 hy1 hy2 (.slice (some ⟨W3.heap.size,0,none⟩) 0 0) 0 [] rfl HK0.out (.slice ka p.nd.ks.length kc) p.nd.ks rfl ((HKS.out.below (z1A HB4.out.1 (z1B _))).ints (by omega)) (by omega) (by simp; omega) ?_; intro vk' W5 hown5 hgrow5 _; rw [Nat.zero_add,List.nil_append] at hown5; obtain ⟨k1,l1,rfl⟩:=q1H hown5; (have HB5:Hid (CpB w W5 (p19 p ca cc ka kc da dc) (p19 p c1 d1 ka kc da dc)):=CpB.grow (CpB.below HB4.out (z1B _)) hgrow5 (fun k e=>by simp [Value.ownBlock] at e; omega)); (have c15:=HB5.out.2.2.2.cell (j:=15) rfl); (have f15:=HB5.out.2.2.2.frozen 15); (have HO5:=hidden (z4J (v1Y HO4.out (z1B _)) HK0.out (by decide) hgrow5)); (have HI5:=hidden hown5); (have HB6:Hid (CpB w (W5.setCell ⟨(w.heap.size+1+1),15,none⟩ (.slice k1 p.nd.ks.length l1)) (p19 p ca cc ka kc da dc) (p19 p c1 d1 k1 l1 da dc)):=HB5.out.set 15 _); (have c18:=HB5.out.2.2.2.cell (j:=18) rfl); (have f18:=HB5.out.2.2.2.frozen 18); clear hown5 hgrow5));have HS7:Hid (CpSt w ((W5.setCell ⟨(w.heap.size+1+1),15,none⟩ (.slice k1 p.nd.ks.length l1)).setCell ⟨(w.heap.size+1+1),18,none⟩ (.slice none 0 0)) n p (p19 p ca cc ka kc da dc) (.slice c1 p.nd.cs.length d1) (.slice k1 p.nd.ks.length l1) (.slice none 0 0) 0):=⟨HB6.out.set 18 _,j2E (j2E HO5.out (by omega)) (by omega),j2E (j2E HI5.out (by omega)) (by omega),by rw [List.take_zero]; exact j2R.empty _ _ _⟩;clear HB6 HO5 HI5 HB5 c15 f15 c18 f18 HK0 HB4 HO4 g15 c12 f12 HB3 HO3 HS9 g12 HC0 hW9 HTH HRA hi0 hz0 hz1 hz2 hj0 hy0 hy1 hy2 H1 hii hla hs9 hs4;go_loopw [4] (fun i wr=> ∃ (k:Nat) (ve:Value),k<=p.kids.length/\i = .int .i64 k/\Hid (CpSt w wr n p (p19 p ca cc ka kc da dc) (.slice c1 p.nd.cs.length d1) (.slice k1 p.nd.ks.length l1) ve k)) (fun i _=>p.kids.length - (intOf i).toNat)
 case atStart=>exact ⟨0,_,Nat.zero_le _,rfl,HS7.out⟩
 case round=>
  obtain ⟨k,ve,hk,rfl,SD0⟩:=hrel;clear HS7;have hbw:=SD0.out.1.1;have hcel:=SD0.out.1.2.1.cell (j:=18) rfl;by_cases hlt:k<p.kids.length
  ·
   have hltI:(k:Int)<(p.kids.length:Int):=by omega
   cases n with
   | zero=>cases p.kids[k]
   | succ m=>
   obtain ⟨_,a0,cap0,heq,-,hcs⟩:=id HKD.out;obtain ⟨kb,ko,rfl,hkb,hnode⟩:=hcs (fun h=>by rw [h] at hlt; exact absurd hlt (Nat.not_lt_zero _));obtain ⟨rfl,-,rfl⟩:da=some ⟨kb,ko,none⟩/\True/\dc=cap0:=by simpa using heq
   obtain ⟨x,HX⟩:∃ x,Hid (x=p.kids[k]):=⟨p.kids[k],Eq.refl p.kids[k]⟩;have hnd:=hnode k hlt;rw [<-HX.out] at hnd;obtain ⟨_,xc,xk,xv,hfl,hpr⟩:=hnd;obtain ⟨_,xa,xd,rfl,_⟩:=id hpr.2.2;obtain ⟨_,xca,xcc,rfl,_⟩:=id hpr.1;obtain ⟨_,xka,xkc,rfl,_⟩:=id hpr.2.1;have HRX:Hid (wr.rangeAt kb (ko+k*19) (p19 x xca xcc xka xkc xa xd)):=fun j v hv=>(hbw.cell (p:=⟨kb,ko+k*19+j,none⟩) hkb).trans (hfl.range j v hv);have hlx:(Tryz.prog.info? 31).map (·.size)=some (p19 x xca xcc xka xkc xa xd).length:=by kernel_rfl
   have hszx:Pl.sz (m+1) x<=1048576:=by
    have h1:=k1B hlt;rw [<-HX.out] at h1;unfold k1X at h1;omega
   have KR:Hid (∀ X:World,Below w.heap.size w X->X.rangeAt kb (ko+k*19) (p19 x xca xcc xka xkc xa xd)):=fun X hX j v hv=>(hX.cell (p:=⟨kb,ko+k*19+j,none⟩) hkb).trans (hfl.range j v hv);have HIX:=hidden (HIH.out m rfl x _ _ _ (wr.drewN 1) (hpr.below (below_drewN hbw 1) fun b o y h=>NodeAt.below m h (below_drewN hbw 1)) hszx);have SD:=hidden (SD0.out.below (below_drewN (Below.refl _ _) 1));obtain ⟨fl,hf1,hf2⟩:=SD.out.2.2.2;have HF1:=hidden hf1;have HF2:=hidden hf2;have hl9:(p.kids.take k).length=k:=by rw [List.length_take]; omega
   obtain ⟨k0,hk0,hx0,hx1,hx2⟩:=info_parts infoPlan19;have hsB:w.heap.size+1+1<wr.heap.size:=SD0.out.1.2.2.2.lt;clear hnode hcs heq hfl hpr HKD hf1 hf2 HRX;go_wp2_with fail;refine wp_region_held_drew (S:=(fun X:World=>X.cell? ⟨w.heap.size,18,none⟩=some (.slice (some ⟨kb,ko,none⟩) p.kids.length dc)/\X.rangeAt kb (ko+k*19) (p19 x xca xcc xka xkc xa xd))) (by kernel_rfl) ?_ (fun hHeld=> ?_)
   ·
    (try dsimp only); exact ⟨SD.out.1.2.1.cell (j:=18) rfl,KR.out _ SD.out.1.1⟩
   refine tk 0 ?_; go_simp;refine tk 2 ?_; go_simp;refine tk 3 ?_; go_simp;refine tk 4 ?_; go_simp;refine tk 5 ?_; go_simp;refine tl 6 (v:=.agg (p19 x xca xcc xka xkc xa xd).toArray) rfl (yieldsIf_load_mid (by rfl) 31 _ rfl kb (ko+k*19) rfl (p19 x xca xcc xka xkc xa xd) _ (fun x h=>h.2) Tryz.underlying31 rfl hlx) ?_;go_simp;refine wpAnyH_ready (rs:=[1,7]) (by kernel_rfl) (by simp) ?_;refine AllReadyH.cons rfl (fun K hK=> ?_) (AllReadyH.cons rfl (fun K hK=> ?_) AllReadyH.nil)
   ·
    have c18:=SD0.out.1.2.2.2.cell (j:=18) rfl;go_simp;refine hK.out _ _ ?_ (fun hHeld=> ?_)
    ·
     (try dsimp only); exact ⟨SD.out.1.2.1.cell (j:=18) rfl,KR.out _ SD.out.1.1⟩
    clear hK K;try go_simp
    refine r1 7 (fun K hK=> ?_);go_simp;(go_at_call 95; refine HIX.out.mono ?_; rintro e wc ⟨yc,yk,yd,rfl,hpy,hby⟩);have SC:=hidden (SD.out.below hby);have HPY:=hidden hpy;have HBY:=hidden hby
    have HOY:=hidden hpy.ones;clear hpy hby
    refine hK.out _ _ ?_ (fun hHeld=> ?_)
    ·
     (try dsimp only); exact ⟨SC.out.1.2.1.cell (j:=18) rfl,KR.out _ SC.out.1.1⟩
    clear hK K;try go_simp
    refine r1 8 (fun K hK=> ?_);go_simp;have SK:=hidden (SC.out.below (z1B (.cells (z1J x.nd yc yk yd).toArray 31)));refine hK.out _ _ ?_ (fun hHeld=> ?_)
    ·
     (try dsimp only); exact ⟨SK.out.1.2.1.cell (j:=18) rfl,KR.out _ SK.out.1.1⟩
    clear hK K;try go_simp
    refine r1 9 (fun K hK=> ?_);have hsK:w.heap.size+1+1<(wc.alloc (.cells (z1J x.nd yc yk yd).toArray 31)).heap.size:=SK.out.1.2.2.2.lt;refine q1I rfl (j2X (.tmp 25) (.tmp 32) 29 rfl (w.heap.size+1+1+1) 31 k0 (.agg o19.toArray) 19 200 Tryz.underlying29 hk0 hx0 hx1 hx2 rfl (by decide) ve (p.kids.take k).length fl (by simp [Act.eval]) (v1Y (v1Y HF1.out HBY.out) (z1B (.cells (z1J x.nd yc yk yd).toArray 31))) ⟨wc.heap.size,0,none⟩ 1 1 (z1J x.nd yc yk yd) (by simp [Act.eval]) rfl (q6A wc (z1J x.nd yc yk yd)) (z6R x.nd yc yk yd HOY.out.1 HOY.out.2.1 HOY.out.2.2) (by unfold maxLen; omega) (by omega) hsK ?_);intro vd9 w6 hown6 hgrow6 hat6;obtain ⟨ea,ec,rfl⟩:=q1H hown6;obtain ⟨B6,S6⟩:=SD.out.push HF1.out HF2.out hlt HX.out HBY.out HPY.out hown6 hgrow6 hat6;rw [hl9] at S6;have HS6:=hidden S6;have c18':=B6.cell (j:=18) rfl;have fz:=B6.frozen 18;have BY6:=hidden (SK.out.1.grow hgrow6 (fun b e=>(HF1.out.lt b e).1));clear hown6 hgrow6 hat6 S6;refine hK.out _ _ ?_ (fun hHeld=> ?_)
    ·
     (try dsimp only); exact ⟨BY6.out.2.1.cell (j:=18) rfl,KR.out _ BY6.out.1⟩
    clear hK K;try go_simp
    refine tk 10 ?_; go_simp;refine r1 11 (fun K hK=> ?_);go_simp;refine hK.out _ _ ?_ (fun hHeld=> ?_)
    ·
     (try dsimp only); exact ⟨HS6.out.1.2.1.cell (j:=18) rfl,KR.out _ HS6.out.1.1⟩
    clear hK K;try simp only [Act.put]
    refine dn ?_;clear hHeld B6 c18' fz BY6;go_wp2;go_roundw
    case rel=>exact ⟨k+1,_,by omega,by go_num,HS6.out⟩
    case measure=>simp [intOf]; omega
   ·
    go_simp;(go_at_call 95; refine HIX.out.mono ?_; rintro e wc ⟨yc,yk,yd,rfl,hpy,hby⟩);have SC:=hidden (SD.out.below hby);have HPY:=hidden hpy;have HBY:=hidden hby
    have HOY:=hidden hpy.ones;clear hpy hby
    refine hK.out _ _ ?_ (fun hHeld=> ?_)
    ·
     (try dsimp only); exact ⟨SC.out.1.2.1.cell (j:=18) rfl,KR.out _ SC.out.1.1⟩
    clear hK K;try go_simp
    refine wpAnyH_ready (rs:=[1,8]) (by kernel_rfl) (by simp) ?_;refine AllReadyH.cons rfl (fun K hK=> ?_) (AllReadyH.cons rfl (fun K hK=> ?_) AllReadyH.nil)
    ·
     have c18:=SC.out.1.2.2.2.cell (j:=18) rfl;go_simp;refine hK.out _ _ ?_ (fun hHeld=> ?_)
     ·
      (try dsimp only); exact ⟨SC.out.1.2.1.cell (j:=18) rfl,KR.out _ SC.out.1.1⟩
     clear hK K;try go_simp
     refine r1 8 (fun K hK=> ?_);go_simp;have SK:=hidden (SC.out.below (z1B (.cells (z1J x.nd yc yk yd).toArray 31)));refine hK.out _ _ ?_ (fun hHeld=> ?_)
     ·
      (try dsimp only); exact ⟨SK.out.1.2.1.cell (j:=18) rfl,KR.out _ SK.out.1.1⟩
     clear hK K;try go_simp
     refine r1 9 (fun K hK=> ?_);have hsK:w.heap.size+1+1<(wc.alloc (.cells (z1J x.nd yc yk yd).toArray 31)).heap.size:=SK.out.1.2.2.2.lt;refine q1I rfl (j2X (.tmp 25) (.tmp 32) 29 rfl (w.heap.size+1+1+1) 31 k0 (.agg o19.toArray) 19 200 Tryz.underlying29 hk0 hx0 hx1 hx2 rfl (by decide) ve (p.kids.take k).length fl (by simp [Act.eval]) (v1Y (v1Y HF1.out HBY.out) (z1B (.cells (z1J x.nd yc yk yd).toArray 31))) ⟨wc.heap.size,0,none⟩ 1 1 (z1J x.nd yc yk yd) (by simp [Act.eval]) rfl (q6A wc (z1J x.nd yc yk yd)) (z6R x.nd yc yk yd HOY.out.1 HOY.out.2.1 HOY.out.2.2) (by unfold maxLen; omega) (by omega) hsK ?_);intro vd9 w6 hown6 hgrow6 hat6;obtain ⟨ea,ec,rfl⟩:=q1H hown6;obtain ⟨B6,S6⟩:=SD.out.push HF1.out HF2.out hlt HX.out HBY.out HPY.out hown6 hgrow6 hat6;rw [hl9] at S6;have HS6:=hidden S6;have c18':=B6.cell (j:=18) rfl;have fz:=B6.frozen 18;have BY6:=hidden (SK.out.1.grow hgrow6 (fun b e=>(HF1.out.lt b e).1));clear hown6 hgrow6 hat6 S6;refine hK.out _ _ ?_ (fun hHeld=> ?_)
     ·
      (try dsimp only); exact ⟨BY6.out.2.1.cell (j:=18) rfl,KR.out _ BY6.out.1⟩
     clear hK K;try go_simp
     refine tk 10 ?_; go_simp;refine r1 11 (fun K hK=> ?_);go_simp;refine hK.out _ _ ?_ (fun hHeld=> ?_)
     ·
      (try dsimp only); exact ⟨HS6.out.1.2.1.cell (j:=18) rfl,KR.out _ HS6.out.1.1⟩
     clear hK K;try simp only [Act.put]
     refine dn ?_;clear hHeld B6 c18' fz BY6;go_wp2;go_roundw
     case rel=>exact ⟨k+1,_,by omega,by go_num,HS6.out⟩
     case measure=>simp [intOf]; omega
    ·
     go_simp;have SK:=hidden (SC.out.below (z1B (.cells (z1J x.nd yc yk yd).toArray 31)));refine hK.out _ _ ?_ (fun hHeld=> ?_)
     ·
      (try dsimp only); exact ⟨SK.out.1.2.1.cell (j:=18) rfl,KR.out _ SK.out.1.1⟩
     clear hK K;try go_simp
     refine r1 1 (fun K hK=> ?_);have c18:=SC.out.1.2.2.2.cell (j:=18) rfl;have c18k:=SK.out.1.2.2.2.cell (j:=18) rfl;go_simp;refine hK.out _ _ ?_ (fun hHeld=> ?_)
     ·
      (try dsimp only); exact ⟨SK.out.1.2.1.cell (j:=18) rfl,KR.out _ SK.out.1.1⟩
     clear hK K;try go_simp
     refine r1 9 (fun K hK=> ?_);have hsK:w.heap.size+1+1<(wc.alloc (.cells (z1J x.nd yc yk yd).toArray 31)).heap.size:=SK.out.1.2.2.2.lt;refine q1I rfl (j2X (.tmp 25) (.tmp 32) 29 rfl (w.heap.size+1+1+1) 31 k0 (.agg o19.toArray) 19 200 Tryz.underlying29 hk0 hx0 hx1 hx2 rfl (by decide) ve (p.kids.take k).length fl (by simp [Act.eval]) (v1Y (v1Y HF1.out HBY.out) (z1B (.cells (z1J x.nd yc yk yd).toArray 31))) ⟨wc.heap.size,0,none⟩ 1 1 (z1J x.nd yc yk yd) (by simp [Act.eval]) rfl (q6A wc (z1J x.nd yc yk yd)) (z6R x.nd yc yk yd HOY.out.1 HOY.out.2.1 HOY.out.2.2) (by unfold maxLen; omega) (by omega) hsK ?_);intro vd9 w6 hown6 hgrow6 hat6;obtain ⟨ea,ec,rfl⟩:=q1H hown6;obtain ⟨B6,S6⟩:=SD.out.push HF1.out HF2.out hlt HX.out HBY.out HPY.out hown6 hgrow6 hat6;rw [hl9] at S6;have HS6:=hidden S6;have c18':=B6.cell (j:=18) rfl;have fz:=B6.frozen 18;have BY6:=hidden (SK.out.1.grow hgrow6 (fun b e=>(HF1.out.lt b e).1));clear hown6 hgrow6 hat6 S6;refine hK.out _ _ ?_ (fun hHeld=> ?_)
     ·
      (try dsimp only); exact ⟨BY6.out.2.1.cell (j:=18) rfl,KR.out _ BY6.out.1⟩
     clear hK K;try go_simp
     refine tk 10 ?_; go_simp;refine r1 11 (fun K hK=> ?_);go_simp;refine hK.out _ _ ?_ (fun hHeld=> ?_)
     ·
      (try dsimp only); exact ⟨HS6.out.1.2.1.cell (j:=18) rfl,KR.out _ HS6.out.1.1⟩
     clear hK K;try simp only [Act.put]
     refine dn ?_;clear hHeld B6 c18' fz BY6;go_wp2;go_roundw
     case rel=>exact ⟨k+1,_,by omega,by go_num,HS6.out⟩
     case measure=>simp [intOf]; omega
  ·
   have hltI:(p.kids.length:Int)<=(k:Int):=by omega
   have e:k=p.kids.length:=by omega
   have htk:p.kids.take k=p.kids:=by rw [e,List.take_length]
   obtain ⟨fl,hf1,-⟩:=SD0.out.2.2.2;rw [htk] at hf1;obtain ⟨ea,ec,rfl⟩:=q1H hf1;have HTH:Hid (wr.there (w.heap.size+1) 0 (p19 p c1 d1 k1 l1 ea ec).toArray.size):=SD0.out.1.2.2.1.there;have hii:(Tryz.prog.info? 31).map (·.size)=some (p19 p c1 d1 k1 l1 ea ec).toArray.size:=by kernel_rfl
   have H1:Hid ((p19 p c1 d1 k1 l1 ea ec).toArray.all (·.oneCell')=true):=j1W p.nd _ _ _ rfl rfl rfl;have hlo:(Tryz.prog.info? 31).map (·.size)=some (p19 p c1 d1 k1 l1 ea ec).length:=by kernel_rfl
   have HRO:Hid (wr.rangeAt (w.heap.size+1+1) 0 (p19 p c1 d1 k1 l1 ea ec)):=SD0.out.1.2.2.2.range;clear hf1 e;go_wp2_with (first | ((with_reducible refine wpList_store_mid rfl 31 (.tmp 2) (.tmp 35) rfl (w.heap.size+1) 0 (p19 p c1 d1 k1 l1 ea ec).toArray ?_ ?_ HTH.out hii H1.out ?_); rfl; rfl; generalize hW9:World.setCells _ _ _ _=W9) | ((with_reducible refine wpList_load_mid rfl 31 (.tmp 3) rfl (w.heap.size+1+1) 0 ?_ (p19 p c1 d1 k1 l1 ea ec) _ HRO.out Tryz.underlying31 ?_ hlo ?_); rfl; rfl));have HF:=hidden (SD0.out.done htk hW9);refine bodyPost_ret (v:=.agg (p19 p c1 d1 k1 l1 ea ec).toArray) (v1R (a:=2) (t:=31) (ad:=⟨(w.heap.size+1),0,none⟩) Tryz.results95 (by simp [Act.put]) (j1K HF.out.1)) (by simp [Act.put]) ?_;exact ⟨_,_,_,rfl,HF.out.2.1,HF.out.2.2⟩
theorem l4Copy_any:∀ n,v4B n:=by
 intro n;induction n with
 | zero=>exact j3W 0 (fun m h=>by cases h)
 | succ n ih=>exact j3W (n+1) (fun m h=>by cases h; exact ih)
end Go.Proofs.YtmjaepdplbgohaaGreatDoor.Kd
