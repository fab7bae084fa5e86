/- Part of the proof of laws.FnMean: KidsZ, MeanKinds, MeanTab, MeanI, KindMean, MeanTop. -/
import Derived.Test.YtmjaepdplbgohaaGreatDoorPkF
import Derived.Test.YtmjaepdplbgohaaGreatDoorPkE
import Derived.Test.YtmjaepdplbgohaaGreatDoorPkA
import Derived.Test.YtmjaepdplbgohaaGreatDoorPkH
import Derived.Deep.RegionHeld3
import Derived.Deep.RegionHeld
import Derived.OrdersHeld
import Derived.Test.YtmjaepdplbgohaaGreatDoorPkJ
set_option maxRecDepth 100000
set_option maxHeartbeats 16000000
set_option linter.unusedVariables false
set_option linter.unusedSimpArgs false
namespace Go.Proofs.YtmjaepdplbgohaaGreatDoor.Kd
open Go.RowKit
def ZssAt (w:World) (v:Value) (zss:List (List It)):Prop:=
 ∃ (a:Option Addr) (cap:Nat),v = .slice a zss.length cap/\∀ j,j<zss.length->∃ b off rv,a=some ⟨b,off,none⟩/\b<w.heap.size/\w.cell? ⟨b,off+j,none⟩=some rv/\q1Y w rv (zss.getD j [])
theorem ZssAt.below {w w':World} {v:Value} {zss:List (List It)} (h:ZssAt w v zss) (hb:Below w.heap.size w w'):ZssAt w' v zss:=by
 obtain ⟨a,cap,rfl,h⟩:=h;refine ⟨a,cap,rfl,fun j hj=> ?_⟩;obtain ⟨b,off,rv,rfl,hl,hc,ht⟩:=h j hj;exact ⟨b,off,rv,rfl,Nat.lt_of_lt_of_le hl hb.size,(hb.cell (p:=⟨b,off+j,none⟩) hl).trans hc,ht.below hb⟩
theorem x1R {w w':World} {base size n:Nat} {e:TypeId} {v:Value} {xs:List Value} (h:w.ownsRow base e size v n xs) (hb:Below w.heap.size w w'):w'.ownsRow base e size v n xs:=by
 obtain ⟨h1,h2⟩:=h;refine ⟨h1,?_⟩;rcases h2 with h2 | ⟨g,cap,cur,hv,hg,hh,r⟩
 ·
  exact .inl h2
 ·
  exact .inr ⟨g,cap,cur,hv,hg,z1F hh hb,r⟩
theorem row_ne {w:World} {lo base n m size:Nat} {e:TypeId} {v u:Value} {xs ys:List Value} (h:w.ownsRow lo e size v n xs) (hb:w.ownsRow base 35 1 u m ys) (he:(35==e)=false):v.ownBlock=none\/v.ownBlock≠u.ownBlock:=by
 rcases h.2 with ⟨rfl,_⟩ | ⟨g,cap,cur,rfl,_,hg,_⟩
 ·
  exact .inl rfl
 ·
  refine .inr fun e'=> ?_;rcases hb.2 with ⟨rfl,_⟩ | ⟨g2,cap2,cur2,rfl,_,hg2,_⟩
  ·
   simp [Value.ownBlock] at e'
  ·
   simp [Value.ownBlock] at e';subst e';rw [hg2] at hg;simp at hg;obtain ⟨_,rfl⟩:=hg;simp at he
theorem q5H {w w':World} {lo hi base m:Nat} {v u:Value} {zs:List It} {ys:List Value} (h:z1V w lo hi v zs) (hb:w.ownsRow base 35 1 u m ys) (hg:w.grownBy w' u.ownBlock):z1V w' lo hi v zs:=by
 obtain ⟨ps,he,hs,hr,ha⟩:=h;exact ⟨ps,he,hs.kept hg (row_ne hs.1 hb (by decide)),fun j hj=>(hr j hj).keptB hg (row_ne (hr j hj).1 hb (by decide)),ha⟩
def x1G (w:World) (base:Nat) (kv:Value) (zss:List (List It)):Prop:=∃ ps:List Value,w.ownsRow base 35 1 kv zss.length ps/\∀ j,j<zss.length->∃ lo hi,z1V w lo hi (ps.getD j vn) (zss.getD j [])
theorem x1G.push {w w':World} {base lo hi:Nat} {kv kv' rv:Value} {zss:List (List It)} {z:List It} {ps:List Value} (h1:w.ownsRow base 35 1 kv zss.length ps) (h2:∀ j,j<zss.length->∃ lo hi,z1V w lo hi (ps.getD j vn) (zss.getD j [])) (hz:z1V w lo hi rv z)
  (hr:w'.ownsRow base 35 1 kv' (zss.length+1) (ps++[rv])) (hg:w.grownBy w' kv.ownBlock):x1G w' base kv' (zss++[z]):=by
 have hl:ps.length=zss.length:=by have:=h1.1; omega
 refine ⟨ps++[rv],by simpa using hr,fun j hj=> ?_⟩;by_cases hlt:j<zss.length
 ·
  obtain ⟨lo,hi,k⟩:=h2 j hlt;refine ⟨lo,hi,?_⟩;have e1:(ps++[rv]).getD j vn=ps.getD j vn:=by simp [List.getD,List.getElem?_append_left (show j<ps.length by omega)]
  have e2:(zss++[z]).getD j []=zss.getD j []:=by simp [List.getD,List.getElem?_append_left hlt]
  rw [e1,e2];exact q5H k h1 hg
 ·
  have hj':j=zss.length:=by simp at hj; omega
  subst hj';refine ⟨lo,hi,?_⟩;have e1:(ps++[rv]).getD zss.length vn=rv:=by simp [List.getD,<-hl]
  have e2:(zss++[z]).getD zss.length []=z:=by simp [List.getD]
  rw [e1,e2];exact q5H hz h1 hg
theorem x1G.at {w:World} {base:Nat} {kv:Value} {zss:List (List It)} (h:x1G w base kv zss):ZssAt w kv zss:=by
 obtain ⟨ps,⟨hl,(⟨rfl,h0⟩ | ⟨g,cap,cur,rfl,hb,hg,h3,h4,h5,h6⟩)⟩,h2⟩:=h
 ·
  exact ⟨none,0,by rw [h0],fun j hj=>by omega⟩
 ·
  refine ⟨some ⟨g,0,none⟩,cap,rfl,fun j hj=> ?_⟩;obtain ⟨lo,hi,k⟩:=h2 j hj;refine ⟨g,0,ps.getD j vn,rfl,(Array.getElem?_eq_some_iff.1 hg).1,?_,k.tail⟩;have hj':j<ps.length:=by omega
  refine cell_at hg ?_;rw [Nat.zero_add,<-Array.getElem?_toList];have:cur.toList[j]? = ps[j]?:=by
   rw [<-h6,List.getElem?_take_of_lt (by omega)]
  rw [this,List.getElem?_eq_getElem hj'];simp [List.getD,hj']
theorem x1G.lit {w:World} {base:Nat} (hb:base<=w.heap.size):x1G (w.alloc (.cells #[] 35)) base (.slice (some ⟨w.heap.size,0,none⟩) 0 0) []:=
 ⟨[],World.ownsRow_lit w #[] 0 hb (by unfold maxLen; omega) rfl,fun j hj=>by simp at hj⟩
abbrev Told:=Bool × List It
def v1A (w:World) (x:Told) (e:Ending) (w':World):Prop:=∃ v',e = .returned (.tuple #[v',.bool x.1])/\z1V w' w.heap.size w'.heap.size v' x.2/\Below w.heap.size w w'
theorem j1Q {w:World} {lo hi:Nat} {v:Value} {zs:List It} (h:z1V w lo hi v zs):∃ a n c,v = .slice a n c:=by
 obtain ⟨_,a,c,rfl,_⟩:=id h.items;exact ⟨a,_,c,rfl⟩
theorem q1T {w:World} {b:Nat} {t:TypeId} {l:List Value} (h:w.heap[b]? = some (.cells l.toArray t)):w.rangeAt b 0 l:=fun j v hv=>cell_at h (by rw [Nat.zero_add,List.getElem?_toArray]; exact hv)
theorem x1H {w:World} {a:Option Addr} {n cap:Nat} {zss:List (List It)} (h:ZssAt w (.slice a n cap) zss) {j:Nat} (hj:j<zss.length):n=zss.length/\∃ b off ra rn rc,a=some ⟨b,off,none⟩/\b<w.heap.size/\w.cell? ⟨b,off+j,none⟩=some (.slice ra rn rc)/\q1Y w (.slice ra rn rc) (zss.getD j []):=by
 obtain ⟨a',cap',he,h⟩:=h;simp only [Value.slice.injEq] at he;obtain ⟨rfl,rfl,rfl⟩:=he;obtain ⟨b,off,rv,rfl,hl,hc,ht⟩:=h j hj;obtain ⟨_,ra,rc,rfl,_⟩:=id ht.items;exact ⟨rfl,b,off,ra,_,rc,rfl,hl,hc,ht⟩
theorem q6F (t:Tst) (a ta:Option Addr) (n cap tn tc:Nat) (ks:List (List It)) (w:World) (hk:ZssAt w (.slice a n cap) ks) (hn:1<=ks.length) (x:Told)
  (hC:∀ (v:Value) (w':World),Below w.heap.size w w'->q1Y w' v (ks.getD 0 [])->Calls Tryz.prog 8 #[v,.agg (t10 t).toArray] w' (v1A w' x)) :
  Calls Tryz.prog 208 #[.agg (t10 t).toArray,.slice a n cap,.slice ta tn tc] w (v1A w x):=by
 obtain ⟨hn',b,off,ra,rn,rc,rfl,hbl,hc0,ht0⟩:=x1H hk (j:=0) (by omega);rw [Nat.add_zero] at hc0;have hlt:0<n:=by omega
 have HN:=hidden hn';have HB:Hid (Below w.heap.size w (w.alloc (.cells (t10 t).toArray 142))):=z1B _;have HA:Hid ((w.alloc (.cells (t10 t).toArray 142)).heap[w.heap.size]? = some (.cells (t10 t).toArray 142)):=alloc_at _ _;have HC:Hid (∀ (v:Value) (w':World),Below w.heap.size w w'->q1Y w' v (ks.getD 0 [])->Calls Tryz.prog 8 #[v,.agg (t10 t).toArray] w' (v1A w' x)):=hC;have HT0:=hidden ht0;have KP:Hid (∀ X:World,Below (w.alloc (.cells (t10 t).toArray 142)).heap.size (w.alloc (.cells (t10 t).toArray 142)) X->(fun X:World=>X.cell? ⟨b,off,none⟩=some (.slice ra rn rc)/\X.rangeAt w.heap.size 0 (t10 t)/\True) X):=fun X hX=>⟨((z1A HB.out hX).cell (p:=⟨b,off,none⟩) hbl).trans hc0,q1T (z1F HA.out hX),trivial⟩;have hlx:(Tryz.prog.info? 26).map (·.size)=some (t10 t).length:=by kernel_rfl
 clear hc0 ht0 hC hk hn hn';go_enter Tryz.func208,Tryz.ntmps208;go_wp2_with fail;refine wp_region_held_drew (S:=(fun X:World=>X.cell? ⟨b,off,none⟩=some (.slice ra rn rc)/\X.rangeAt w.heap.size 0 (t10 t)/\True)) (by kernel_rfl) ?_ (fun hHeld=> ?_)
 ·
  (try dsimp only); exact KP.out _ (below_drewN (Below.refl _ _) 1)
 refine tk 0 ?_; simp only [ap];refine tk 1 ?_; simp only [ap];refine tk 2 ?_; simp only [ap];refine tk 3 ?_; simp only [ap];refine tl 4 (v:=.agg (t10 t).toArray) rfl (yieldsIf_load_mid (by rfl) 26 _ rfl w.heap.size 0 rfl (t10 t) _ (fun x h=>h.2.1) Tryz.underlying26 rfl hlx) ?_;simp only [ap];refine r1 5 (fun K hK=> ?_);go_simp;(go_at_call 8; refine (HC.out _ _ (z1A HB.out (below_drewN (Below.refl _ _) 1)) (HT0.out.below (z1A HB.out (below_drewN (Below.refl _ _) 1)))).mono ?_; rintro e w2 ⟨v2,rfl,O2,hb2⟩; obtain ⟨qa,qn,qc,rfl⟩:=j1Q O2; have HZ:=hidden (z1A (below_drewN (Below.refl _ _) 1) hb2); have HO:=hidden (O2.wide (z1A HB.out (below_drewN (Below.refl _ _) 1)).size (Nat.le_refl _) (Nat.le_refl _)); clear O2 hb2);refine hK.out _ _ ?_ (fun hHeld=> ?_)
 ·
  (try dsimp only); exact KP.out _ HZ.out
 clear hK K;try simp only [ap]
 refine tk 6 ?_; simp only [ap];refine tk 7 ?_; simp only [ap];refine tk 8 ?_; simp only [ap];refine tk 9 ?_; simp only [ap];refine dn ?_;have HE:=hidden (z1A HB.out HZ.out);clear hHeld KP HC;go_wp2_with fail;go_ret2;exact ⟨_,rfl,HO.out,HE.out⟩
theorem meanMap (ca:Option Addr) (nc cc:Nat) (a ta:Option Addr) (n cap tn tc:Nat) (ks:List (List It)) (w:World) (hk:ZssAt w (.slice a n cap) ks) (hn:1<=ks.length) (x:Told)
  (hC:∀ (v:Value) (w':World),Below w.heap.size w w'->q1Y w' v (ks.getD 0 [])->Calls Tryz.prog 9 #[v,.slice ca nc cc] w' (v1A w' x)) :
  Calls Tryz.prog 214 #[.agg #[.slice ca nc cc],.slice a n cap,.slice ta tn tc] w (v1A w x):=by
 obtain ⟨hn',b,off,ra,rn,rc,rfl,hbl,hc0,ht0⟩:=x1H hk (j:=0) (by omega);rw [Nat.add_zero] at hc0;have hlt:0<n:=by omega
 have HN:=hidden hn';have HB:Hid (Below w.heap.size w (w.alloc (.cells #[.slice ca nc cc] 144))):=z1B _;have HA:Hid ((w.alloc (.cells #[.slice ca nc cc] 144)).heap[w.heap.size]? = some (.cells #[.slice ca nc cc] 144)):=alloc_at _ _;have HC:Hid (∀ (v:Value) (w':World),Below w.heap.size w w'->q1Y w' v (ks.getD 0 [])->Calls Tryz.prog 9 #[v,.slice ca nc cc] w' (v1A w' x)):=hC;have HT0:=hidden ht0;have KP:Hid (∀ X:World,Below (w.alloc (.cells #[.slice ca nc cc] 144)).heap.size (w.alloc (.cells #[.slice ca nc cc] 144)) X->(fun X:World=>X.cell? ⟨b,off,none⟩=some (.slice ra rn rc)/\X.cell? ⟨w.heap.size,0,none⟩=some (.slice ca nc cc)/\True) X):=fun X hX=>⟨((z1A HB.out hX).cell (p:=⟨b,off,none⟩) hbl).trans hc0,cell_at (z1F HA.out hX) rfl,trivial⟩;clear hc0 ht0 hC hk hn hn';go_enter Tryz.func214,Tryz.ntmps214;go_wp2_with fail;refine wp_region_held_drew (S:=(fun X:World=>X.cell? ⟨b,off,none⟩=some (.slice ra rn rc)/\X.cell? ⟨w.heap.size,0,none⟩=some (.slice ca nc cc)/\True)) (by kernel_rfl) ?_ (fun hHeld=> ?_)
 ·
  (try dsimp only); exact KP.out _ (below_drewN (Below.refl _ _) 1)
 refine tk 0 ?_; simp only [ap];refine tk 1 ?_; simp only [ap];refine tk 2 ?_; simp only [ap];refine tk 3 ?_; simp only [ap];refine tk 4 ?_; simp only [ap];refine r1 5 (fun K hK=> ?_);go_simp;(go_at_call 9; refine (HC.out _ _ (z1A HB.out (below_drewN (Below.refl _ _) 1)) (HT0.out.below (z1A HB.out (below_drewN (Below.refl _ _) 1)))).mono ?_; rintro e w2 ⟨v2,rfl,O2,hb2⟩; obtain ⟨qa,qn,qc,rfl⟩:=j1Q O2; have HZ:=hidden (z1A (below_drewN (Below.refl _ _) 1) hb2); have HO:=hidden (O2.wide (z1A HB.out (below_drewN (Below.refl _ _) 1)).size (Nat.le_refl _) (Nat.le_refl _)); clear O2 hb2);refine hK.out _ _ ?_ (fun hHeld=> ?_)
 ·
  (try dsimp only); exact KP.out _ HZ.out
 clear hK K;try simp only [ap]
 refine tk 6 ?_; simp only [ap];refine tk 7 ?_; simp only [ap];refine tk 8 ?_; simp only [ap];refine tk 9 ?_; simp only [ap];refine dn ?_;have HE:=hidden (z1A HB.out HZ.out);clear hHeld KP HC;go_wp2_with fail;go_ret2;exact ⟨_,rfl,HO.out,HE.out⟩
theorem meanJoin (p q:Int) (a ta:Option Addr) (n cap tn tc:Nat) (ks:List (List It)) (w:World) (hk:ZssAt w (.slice a n cap) ks) (hn:2<=ks.length) (x:Told)
  (hC:∀ (v u:Value) (w':World),Below w.heap.size w w'->q1Y w' v (ks.getD 0 [])->q1Y w' u (ks.getD 1 [])->Calls Tryz.prog 10 #[v,u,.int .i64 p,.int .i64 q] w' (v1A w' x)) :
  Calls Tryz.prog 219 #[.agg #[.int .i64 p,.int .i64 q],.slice a n cap,.slice ta tn tc] w (v1A w x):=by
 obtain ⟨hn',b,off,ra,rn,rc,rfl,hbl,hc0,ht0⟩:=x1H hk (j:=0) (by omega);rw [Nat.add_zero] at hc0;obtain ⟨-,b2,off2,rb,rm,rd,he2,hbl2,hc1,ht1⟩:=x1H hk (j:=1) (by omega);simp only [Option.some.injEq,Addr.mk.injEq,and_true] at he2;obtain ⟨rfl,rfl⟩:=he2;have hlt1:1<n:=by omega
 have hlt2:(1:Int)<(n:Int):=by omega
 have hlt:0<n:=by omega
 have HN:=hidden hn';have HB:Hid (Below w.heap.size w (w.alloc (.cells #[.int .i64 p,.int .i64 q] 147))):=z1B _;have HA:Hid ((w.alloc (.cells #[.int .i64 p,.int .i64 q] 147)).heap[w.heap.size]? = some (.cells #[.int .i64 p,.int .i64 q] 147)):=alloc_at _ _;have HC:Hid (∀ (v u:Value) (w':World),Below w.heap.size w w'->q1Y w' v (ks.getD 0 [])->q1Y w' u (ks.getD 1 [])->Calls Tryz.prog 10 #[v,u,.int .i64 p,.int .i64 q] w' (v1A w' x)):=hC;have HT0:=hidden ht0;have HT1:=hidden ht1;have KP:Hid (∀ X:World,Below (w.alloc (.cells #[.int .i64 p,.int .i64 q] 147)).heap.size (w.alloc (.cells #[.int .i64 p,.int .i64 q] 147)) X->(fun X:World=>X.cell? ⟨b,off,none⟩=some (.slice ra rn rc)/\X.cell? ⟨b,off+1,none⟩=some (.slice rb rm rd)/\X.cell? ⟨w.heap.size,0,none⟩=some (.int .i64 p)/\X.cell? ⟨w.heap.size,1,none⟩=some (.int .i64 q)/\True) X):=fun X hX=>⟨((z1A HB.out hX).cell (p:=⟨b,off,none⟩) hbl).trans hc0,((z1A HB.out hX).cell (p:=⟨b,off+1,none⟩) hbl).trans hc1,cell_at (z1F HA.out hX) rfl,cell_at (z1F HA.out hX) rfl,trivial⟩;clear hc0 ht0 hC hk hn hn' hc1 ht1 hbl2;go_enter Tryz.func219,Tryz.ntmps219;go_wp2_with fail;refine wp_region_held_drew (S:=(fun X:World=>X.cell? ⟨b,off,none⟩=some (.slice ra rn rc)/\X.cell? ⟨b,off+1,none⟩=some (.slice rb rm rd)/\X.cell? ⟨w.heap.size,0,none⟩=some (.int .i64 p)/\X.cell? ⟨w.heap.size,1,none⟩=some (.int .i64 q)/\True)) (by kernel_rfl) ?_ (fun hHeld=> ?_)
 ·
  (try dsimp only); exact KP.out _ (below_drewN (Below.refl _ _) 1)
 refine tk 0 ?_; simp only [ap];refine tk 1 ?_; simp only [ap];refine tk 2 ?_; simp only [ap];refine tk 3 ?_; simp only [ap];refine tk 4 ?_; simp only [ap];refine tk 5 ?_; simp only [ap];refine tk 6 ?_; simp only [ap];refine tk 7 ?_; simp only [ap];refine tk 8 ?_; simp only [ap];refine tk 9 ?_; simp only [ap];refine r1 10 (fun K hK=> ?_);go_simp;(go_at_call 10; refine (HC.out _ _ _ (z1A HB.out (below_drewN (Below.refl _ _) 1)) (HT0.out.below (z1A HB.out (below_drewN (Below.refl _ _) 1))) (HT1.out.below (z1A HB.out (below_drewN (Below.refl _ _) 1)))).mono ?_; rintro e w2 ⟨v2,rfl,O2,hb2⟩; obtain ⟨qa,qn,qc,rfl⟩:=j1Q O2; have HZ:=hidden (z1A (below_drewN (Below.refl _ _) 1) hb2); have HO:=hidden (O2.wide (z1A HB.out (below_drewN (Below.refl _ _) 1)).size (Nat.le_refl _) (Nat.le_refl _)); clear O2 hb2);refine hK.out _ _ ?_ (fun hHeld=> ?_)
 ·
  (try dsimp only); exact KP.out _ HZ.out
 clear hK K;try simp only [ap]
 refine tk 11 ?_; simp only [ap];refine tk 12 ?_; simp only [ap];refine tk 13 ?_; simp only [ap];refine tk 14 ?_; simp only [ap];refine dn ?_;have HE:=hidden (z1A HB.out HZ.out);clear hHeld KP HC;go_wp2_with fail;go_ret2;exact ⟨_,rfl,HO.out,HE.out⟩
theorem meanBoth (a ta:Option Addr) (n cap tn tc:Nat) (ks:List (List It)) (w:World) (hk:ZssAt w (.slice a n cap) ks) (hn:2<=ks.length) (x:Told)
  (hC:∀ (v u:Value) (w':World),Below w.heap.size w w'->q1Y w' v (ks.getD 0 [])->q1Y w' u (ks.getD 1 [])->Calls Tryz.prog 11 #[v,u] w' (v1A w' x)) :
  Calls Tryz.prog 223 #[.agg #[],.slice a n cap,.slice ta tn tc] w (v1A w x):=by
 obtain ⟨hn',b,off,ra,rn,rc,rfl,hbl,hc0,ht0⟩:=x1H hk (j:=0) (by omega);rw [Nat.add_zero] at hc0;obtain ⟨-,b2,off2,rb,rm,rd,he2,hbl2,hc1,ht1⟩:=x1H hk (j:=1) (by omega);simp only [Option.some.injEq,Addr.mk.injEq,and_true] at he2;obtain ⟨rfl,rfl⟩:=he2;have hlt1:1<n:=by omega
 have hlt2:(1:Int)<(n:Int):=by omega
 have hlt:0<n:=by omega
 have HN:=hidden hn';have HB:Hid (Below w.heap.size w (w.alloc (.cells #[] 149))):=z1B _;have HA:Hid ((w.alloc (.cells #[] 149)).heap[w.heap.size]? = some (.cells #[] 149)):=alloc_at _ _;have HC:Hid (∀ (v u:Value) (w':World),Below w.heap.size w w'->q1Y w' v (ks.getD 0 [])->q1Y w' u (ks.getD 1 [])->Calls Tryz.prog 11 #[v,u] w' (v1A w' x)):=hC;have HT0:=hidden ht0;have HT1:=hidden ht1;have KP:Hid (∀ X:World,Below (w.alloc (.cells #[] 149)).heap.size (w.alloc (.cells #[] 149)) X->(fun X:World=>X.cell? ⟨b,off,none⟩=some (.slice ra rn rc)/\X.cell? ⟨b,off+1,none⟩=some (.slice rb rm rd)/\True) X):=fun X hX=>⟨((z1A HB.out hX).cell (p:=⟨b,off,none⟩) hbl).trans hc0,((z1A HB.out hX).cell (p:=⟨b,off+1,none⟩) hbl).trans hc1,trivial⟩;clear hc0 ht0 hC hk hn hn' hc1 ht1 hbl2;go_enter Tryz.func223,Tryz.ntmps223;go_wp2_with fail;refine wp_region_held_drew (S:=(fun X:World=>X.cell? ⟨b,off,none⟩=some (.slice ra rn rc)/\X.cell? ⟨b,off+1,none⟩=some (.slice rb rm rd)/\True)) (by kernel_rfl) ?_ (fun hHeld=> ?_)
 ·
  (try dsimp only); exact KP.out _ (below_drewN (Below.refl _ _) 1)
 refine tk 0 ?_; simp only [ap];refine tk 1 ?_; simp only [ap];refine tk 2 ?_; simp only [ap];refine tk 3 ?_; simp only [ap];refine tk 4 ?_; simp only [ap];refine tk 5 ?_; simp only [ap];refine r1 6 (fun K hK=> ?_);go_simp;(go_at_call 11; refine (HC.out _ _ _ (z1A HB.out (below_drewN (Below.refl _ _) 1)) (HT0.out.below (z1A HB.out (below_drewN (Below.refl _ _) 1))) (HT1.out.below (z1A HB.out (below_drewN (Below.refl _ _) 1)))).mono ?_; rintro e w2 ⟨v2,rfl,O2,hb2⟩; obtain ⟨qa,qn,qc,rfl⟩:=j1Q O2; have HZ:=hidden (z1A (below_drewN (Below.refl _ _) 1) hb2); have HO:=hidden (O2.wide (z1A HB.out (below_drewN (Below.refl _ _) 1)).size (Nat.le_refl _) (Nat.le_refl _)); clear O2 hb2);refine hK.out _ _ ?_ (fun hHeld=> ?_)
 ·
  (try dsimp only); exact KP.out _ HZ.out
 clear hK K;try simp only [ap]
 refine tk 7 ?_; simp only [ap];refine tk 8 ?_; simp only [ap];refine tk 9 ?_; simp only [ap];refine tk 10 ?_; simp only [ap];refine dn ?_;have HE:=hidden (z1A HB.out HZ.out);clear hHeld KP HC;go_wp2_with fail;go_ret2;exact ⟨_,rfl,HO.out,HE.out⟩
theorem meanOnce (a ta:Option Addr) (n cap tn tc:Nat) (ks:List (List It)) (w:World) (hk:ZssAt w (.slice a n cap) ks) (hn:1<=ks.length) (x:Told) (hx:x.1=true)
  (hC:∀ (v:Value) (w':World),Below w.heap.size w w'->q1Y w' v (ks.getD 0 [])->Calls Tryz.prog 12 #[v] w' fun e w2=> ∃ v',e = .returned v'/\z1V w2 w'.heap.size w2.heap.size v' x.2/\Below w'.heap.size w' w2) :
  Calls Tryz.prog 227 #[.agg #[],.slice a n cap,.slice ta tn tc] w (v1A w x):=by
 obtain ⟨hn',b,off,ra,rn,rc,rfl,hbl,hc0,ht0⟩:=x1H hk (j:=0) (by omega);rw [Nat.add_zero] at hc0;have hlt:0<n:=by omega
 have HN:=hidden hn';have HB:Hid (Below w.heap.size w (w.alloc (.cells #[] 151))):=z1B _;have HA:Hid ((w.alloc (.cells #[] 151)).heap[w.heap.size]? = some (.cells #[] 151)):=alloc_at _ _;have HC:Hid (∀ (v:Value) (w':World),Below w.heap.size w w'->q1Y w' v (ks.getD 0 [])->Calls Tryz.prog 12 #[v] w' fun e w2=> ∃ v',e = .returned v'/\z1V w2 w'.heap.size w2.heap.size v' x.2/\Below w'.heap.size w' w2):=hC;have HT0:=hidden ht0;have KP:Hid (∀ X:World,Below (w.alloc (.cells #[] 151)).heap.size (w.alloc (.cells #[] 151)) X->(fun X:World=>X.cell? ⟨b,off,none⟩=some (.slice ra rn rc)/\True) X):=fun X hX=>⟨((z1A HB.out hX).cell (p:=⟨b,off,none⟩) hbl).trans hc0,trivial⟩;obtain ⟨g0,gT⟩:=KP.out _ (Below.refl _ _);clear hc0 ht0 hC hk hn hn';go_enter Tryz.func227,Tryz.ntmps227;go_wp2_with (go_at_call 12; refine (HC.out _ _ (z1A HB.out (Below.refl _ _)) (HT0.out.below (z1A HB.out (Below.refl _ _)))).mono ?_; rintro e w2 ⟨v2,rfl,O2,hb2⟩; obtain ⟨qa,qn,qc,rfl⟩:=j1Q O2; have HZ:=hidden (z1A (Below.refl _ _) hb2); have HO:=hidden (O2.wide (z1A HB.out (Below.refl _ _)).size (Nat.le_refl _) (Nat.le_refl _)); clear O2 hb2);have HE:=hidden (z1A HB.out HZ.out);clear KP HC g0;go_wp2_with fail;go_ret2;exact ⟨.slice qa qn qc,by rw [hx]; rfl,HO.out,HE.out⟩
theorem q6H (ka:Option Addr) (nk kc:Nat) (p q:Int) (a ta:Option Addr) (n cap tn tc:Nat) (ks:List (List It)) (w:World) (hk:ZssAt w (.slice a n cap) ks) (hn:1<=ks.length) (x:Told)
  (hC:∀ (v:Value) (w':World),Below w.heap.size w w'->q1Y w' v (ks.getD 0 [])->Calls Tryz.prog 13 #[v,.slice ka nk kc,.int .i64 p,.int .i64 q] w' (v1A w' x)) :
  Calls Tryz.prog 231 #[.agg #[.slice ka nk kc,.int .i64 p,.int .i64 q],.slice a n cap,.slice ta tn tc] w (v1A w x):=by
 obtain ⟨hn',b,off,ra,rn,rc,rfl,hbl,hc0,ht0⟩:=x1H hk (j:=0) (by omega);rw [Nat.add_zero] at hc0;have hlt:0<n:=by omega
 have HN:=hidden hn';have HB:Hid (Below w.heap.size w (w.alloc (.cells #[.slice ka nk kc,.int .i64 p,.int .i64 q] 153))):=z1B _;have HA:Hid ((w.alloc (.cells #[.slice ka nk kc,.int .i64 p,.int .i64 q] 153)).heap[w.heap.size]? = some (.cells #[.slice ka nk kc,.int .i64 p,.int .i64 q] 153)):=alloc_at _ _;have HC:Hid (∀ (v:Value) (w':World),Below w.heap.size w w'->q1Y w' v (ks.getD 0 [])->Calls Tryz.prog 13 #[v,.slice ka nk kc,.int .i64 p,.int .i64 q] w' (v1A w' x)):=hC;have HT0:=hidden ht0;have KP:Hid (∀ X:World,Below (w.alloc (.cells #[.slice ka nk kc,.int .i64 p,.int .i64 q] 153)).heap.size (w.alloc (.cells #[.slice ka nk kc,.int .i64 p,.int .i64 q] 153)) X->(fun X:World=>X.cell? ⟨b,off,none⟩=some (.slice ra rn rc)/\X.cell? ⟨w.heap.size,0,none⟩=some (.slice ka nk kc)/\X.cell? ⟨w.heap.size,1,none⟩=some (.int .i64 p)/\X.cell? ⟨w.heap.size,2,none⟩=some (.int .i64 q)/\True) X):=fun X hX=>⟨((z1A HB.out hX).cell (p:=⟨b,off,none⟩) hbl).trans hc0,cell_at (z1F HA.out hX) rfl,cell_at (z1F HA.out hX) rfl,cell_at (z1F HA.out hX) rfl,trivial⟩;clear hc0 ht0 hC hk hn hn';go_enter Tryz.func231,Tryz.ntmps231;go_wp2_with fail;refine wp_region_held_drew (S:=(fun X:World=>X.cell? ⟨b,off,none⟩=some (.slice ra rn rc)/\X.cell? ⟨w.heap.size,0,none⟩=some (.slice ka nk kc)/\X.cell? ⟨w.heap.size,1,none⟩=some (.int .i64 p)/\X.cell? ⟨w.heap.size,2,none⟩=some (.int .i64 q)/\True)) (by kernel_rfl) ?_ (fun hHeld=> ?_)
 ·
  (try dsimp only); exact KP.out _ (below_drewN (Below.refl _ _) 1)
 refine tk 0 ?_; simp only [ap];refine tk 1 ?_; simp only [ap];refine tk 2 ?_; simp only [ap];refine tk 3 ?_; simp only [ap];refine tk 4 ?_; simp only [ap];refine tk 5 ?_; simp only [ap];refine tk 6 ?_; simp only [ap];refine tk 7 ?_; simp only [ap];refine tk 8 ?_; simp only [ap];refine r1 9 (fun K hK=> ?_);go_simp;(go_at_call 13; refine (HC.out _ _ (z1A HB.out (below_drewN (Below.refl _ _) 1)) (HT0.out.below (z1A HB.out (below_drewN (Below.refl _ _) 1)))).mono ?_; rintro e w2 ⟨v2,rfl,O2,hb2⟩; obtain ⟨qa,qn,qc,rfl⟩:=j1Q O2; have HZ:=hidden (z1A (below_drewN (Below.refl _ _) 1) hb2); have HO:=hidden (O2.wide (z1A HB.out (below_drewN (Below.refl _ _) 1)).size (Nat.le_refl _) (Nat.le_refl _)); clear O2 hb2);refine hK.out _ _ ?_ (fun hHeld=> ?_)
 ·
  (try dsimp only); exact KP.out _ HZ.out
 clear hK K;try simp only [ap]
 refine tk 10 ?_; simp only [ap];refine tk 11 ?_; simp only [ap];refine tk 12 ?_; simp only [ap];refine tk 13 ?_; simp only [ap];refine dn ?_;have HE:=hidden (z1A HB.out HZ.out);clear hHeld KP HC;go_wp2_with fail;go_ret2;exact ⟨_,rfl,HO.out,HE.out⟩
def v4L (ts:List (List It)) (v:Int):Told:=if 0<=v/\v<ts.length/\q1G (ts.getD v.toNat [])=true then (true,ts.getD v.toNat []) else (false,[])
theorem q6G (v:Int) (a ta:Option Addr) (n cap tn tc:Nat) (ts:List (List It)) (w:World) (ht:ZssAt w (.slice ta tn tc) ts) :
  Calls Tryz.prog 203 #[.agg #[.int .i64 v],.slice a n cap,.slice ta tn tc] w (v1A w (v4L ts v)):=by
 have hlen:tn=ts.length:=by obtain ⟨_,_,he,_⟩:=ht; simp only [Value.slice.injEq] at he; exact he.2.1
 have HB:Hid (Below w.heap.size w (w.alloc (.cells #[.int .i64 v] 139))):=z1B _;by_cases hv:0<=v/\v<(tn:Int)
 ·
  obtain ⟨j,rfl⟩:∃ j:Nat,v=j:=⟨v.toNat,by omega⟩;have hj:j<ts.length:=by omega
  obtain ⟨-,b,off,ra,rn,rc,rfl,hbl,hc,htz⟩:=x1H ht hj;have hc1:(w.alloc (.cells #[.int .i64 (j:Int)] 139)).cell? ⟨b,off+j,none⟩=some (.slice ra rn rc):=(HB.out.cell (p:=⟨b,off+j,none⟩) hbl).trans hc;have hlt:j<tn:=by omega
  have hpl:decide (0<=(j:Int)/\(j:Int)<(tn:Int))=true:=by simp; omega
  have HT:=hidden (htz.below HB.out);obtain ⟨z,hz⟩:∃ z,z=ts.getD j []:=⟨_,rfl⟩;have htab:v4L ts j=if q1G z=true then (true,z) else (false,[]):=by
   unfold v4L;simp only [Int.toNat_natCast,<-hz];by_cases hk:q1G z=true
   ·
    rw [if_pos ⟨by omega,by omega,hk⟩,if_pos hk]
   ·
    rw [if_neg (fun h=>hk h.2.2),if_neg hk]
  rw [<-hz] at HT;rw [htab];clear hc htz ht hz htab hbl;have HLEN:=hidden hlen;clear hlen hv hj;cases hok:q1G z with
  | false=>
   go_enter Tryz.func203,Tryz.ntmps203;go_wp2_with (first | (go_at_call 75; refine (q1O _ _ _).mono ?_; rw [hpl]; rintro e w1 ⟨rfl,hw1⟩; obtain rfl:=hw1.symm) | (go_at_call 15; refine (z1O _ z _ HT.out.items).mono ?_; rw [hok]; rintro e w1 ⟨rfl,hb1⟩; have HB1:=hidden (z1A HB.out hb1); clear hb1));go_ret2;exact ⟨_,rfl,q1D _ _,HB1.out⟩
  | true=>
   have hm:=k2B hok;go_enter Tryz.func203,Tryz.ntmps203;go_wp2_with (first | (go_at_call 75; refine (q1O _ _ _).mono ?_; rw [hpl]; rintro e w1 ⟨rfl,hw1⟩; obtain rfl:=hw1.symm) | (go_at_call 15; refine (z1O _ z _ HT.out.items).mono ?_; rw [hok]; rintro e w1 ⟨rfl,hb1⟩; have HB1:=hidden (z1A HB.out hb1); have HT1:=hidden (HT.out.below hb1); have hc2:=(hb1.cell (p:=⟨b,off+j,none⟩) (World.block_lt_of_cell? _ _ hc1)).trans hc1; have hc3:=(hb1.cell (p:=⟨w.heap.size,0,none⟩) (by simp)).trans (cell_at (alloc_at w (.cells #[.int .i64 (j:Int)] 139)) rfl); clear hb1) | (go_at_call 80; refine (k2V _ z _ HT1.out.items (by have:=hm.1; omega) hm.2.1).mono ?_; rintro e w2 ⟨v2,rfl,O2,hb2⟩; obtain ⟨qa,qn,qc,rfl⟩:=j1Q O2; have HO:=hidden (O2.wide HB1.out.size (Nat.le_refl _) (Nat.le_refl _)); have HB2:=hidden (z1A HB1.out hb2); clear O2 hb2));go_ret2;exact ⟨_,rfl,HO.out,HB2.out⟩
 ·
  have hpl:decide (0<=v/\v<(tn:Int))=false:=decide_eq_false hv;have htab:v4L ts v=(false,[]):=if_neg (fun h=>hv ⟨h.1,by omega⟩);rw [htab];clear ht hlen hv htab;go_enter Tryz.func203,Tryz.ntmps203;go_wp2_with (go_at_call 75; refine (q1O _ _ _).mono ?_; rw [hpl]; rintro e w1 ⟨rfl,hw1⟩; obtain rfl:=hw1.symm);go_ret2;exact ⟨_,rfl,q1D _ _,HB.out⟩
end Go.Proofs.YtmjaepdplbgohaaGreatDoor.Kd
namespace Go.Proofs.YtmjaepdplbgohaaGreatDoor.Kd
open Go.RowKit Go.Shelf
attribute [local go_sem] Oper.semAt_some
def x1I (fK:Nd->List (List It)->Told):(n:Nat)->Pl n->Option (List It)
 | 0,_=>none
 | n+1,p=>(p.kids.mapM (x1I fK n)).bind fun ks=>if (fK p.nd ks).1 then some (fK p.nd ks).2 else none
def told (o:Option (List It)):Told:=(o.isSome,o.getD [])
theorem z2H (fK:Nd->List (List It)->Told) {n:Nat} (p:Pl (n+1)):x1I fK (n+1) p=(p.kids.mapM (x1I fK n)).bind fun ks=>if (fK p.nd ks).1 then some (fK p.nd ks).2 else none:=rfl
theorem j3O {α β:Type} (f:α->Option β) (l:List α) (k:Nat) (hk:k<l.length) (ys:List β) (h:(l.take k).mapM f=some ys):(l.take (k+1)).mapM f=(f l[k]).map fun y=>ys++[y]:=by
 rw [List.take_succ_eq_append_getElem hk,List.mapM_append,h];cases hf:f l[k] <;> simp [hf]
theorem j4W {α β:Type} (f:α->Option β) (l:List α) (k:Nat) (h:(l.take k).mapM f=none):l.mapM f=none:=by
 rw [<-List.take_append_drop k l,List.mapM_append,h];rfl
theorem z2B {α β:Type} (f:α->Option β):∀ (l:List α) (ys:List β),l.mapM f=some ys->ys.length=l.length:=by
 intro l;induction l with
 | nil=>intro ys h; simp at h; subst h; rfl
 | cons x l ih=>
  intro ys h;rw [List.mapM_cons] at h;cases hx:f x with
  | none=>rw [hx] at h; simp at h
  | some y=>
   cases hl:l.mapM f with
   | none=>rw [hx,hl] at h; simp at h
   | some zs=>
    rw [hx,hl] at h;simp at h;subst h;simp [ih zs hl]
def q4N (w0:World) (ta:Option Addr) (tn tc:Nat) (fK:Nd->List (List It)->Told) (okT:Tst->Bool) (okC:Cel->Bool) (okK:List Int->Bool):Prop:=
 ∀ (d:Nd) (vc vk vd:Value) (k:Nat) (w:World),Below w0.heap.size w0 w->q1J w vc d.cs->RawInts w vk d.ks->d.cs.length<=1048576->d.ks.length<=1048576->j1R okT okC okK d=some (k,true) →
  Calls Tryz.prog 58 #[.agg (z1J d vc vk vd).toArray] w fun e w2=> ∃ (T:TypeId) (y:Value) (fm:Nat),e = .returned (.iface T y)/\Below w.heap.size w w2/\(∀ w,(Go.method 381 T y "loop.example/milldam/impl.mean").run Tryz.prog w = .ok (fm,y) w)/\(∀ args w,(callFunc fm args).run Tryz.prog w = .ok (.enter fm args) w) ∧
   ∀ (w3:World) (a:Option Addr) (n cap:Nat) (ks:List (List It)),Below w2.heap.size w2 w3->ZssAt w3 (.slice a n cap) ks->ks.length=k->Calls Tryz.prog fm #[y,.slice a n cap,.slice ta tn tc] w3 (v1A w3 (fK d ks))
def x6J (w0:World) (ta:Option Addr) (tn tc:Nat) (fK:Nd->List (List It)->Told) (okT:Tst->Bool) (okC:Cel->Bool) (okK:List Int->Bool) (n:Nat):Prop:=
 ∀ (p:Pl (n+1)) (ca ka da:Option Addr) (cc kc dc:Nat) (w:World),Below w0.heap.size w0 w->q1X (NodeAt n) w p.nd p.kids (.slice ca p.nd.cs.length cc) (.slice ka p.nd.ks.length kc) (.slice da p.kids.length dc)->Pl.sz (n+1) p<=1048576->(∃ deep,v1P okT okC okK (n+1) p deep=true) →
  CallsIn Fence.wide 0 Tryz.prog 22 #[.agg (p19 p ca cc ka kc da dc).toArray,.slice ta tn tc] w (v1A w (told (x1I fK (n+1) p)))
theorem q3R (w:World) (v:Value):∀ j u,([v]:List Value)[j]? = some u->(w.alloc (.cells #[v] 35)).cell? ((⟨w.heap.size,0,none⟩:Addr).add j)=some u:=fun j u h=>by
 match j,h with
 | 0,h=>(simp at h; subst h; exact cell_at (alloc_at _ _) rfl)
 | j+1,h=>simp at h
theorem infoRun:(Tryz.prog.info? 35).map (fun i=>(i.zero,i.size,i.bytes))=some (some (.slice none 0 0),1,24):=by kernel_rfl
theorem j3N (w0:World) (ta:Option Addr) (tn tc:Nat) (fK:Nd->List (List It)->Told) (okT:Tst->Bool) (okC:Cel->Bool) (okK:List Int->Bool) (hF:∀ d ks,(fK d ks).1=false->(fK d ks).2=[]) (hK:q4N w0 ta tn tc fK okT okC okK) (n:Nat) (IH:∀ m,n=m+1->x6J w0 ta tn tc fK okT okC okK m):x6J w0 ta tn tc fK okT okC okK n:=by
 intro p ca ka da cc kc dc w hw0 hp hz hform;obtain ⟨deep,hform⟩:=hform;have HFORM:=hidden (x1M.1 hform);obtain ⟨hcs,hks,hkd⟩:=hp;have HCS:=hidden hcs;have HKS:=hidden hks;have HKD:=hidden hkd;have HK:=hidden hK;have HIH:=hidden IH;have HW0:=hidden hw0;have HF:=hidden hF;have hsz:=Pl.sz_succ p;have hlc:p.nd.cs.length<=1048576:=by omega
 have hlk:p.nd.ks.length<=1048576:=by omega
 have hln:p.kids.length<=1048576:=by omega
 clear hcs hks hkd hK IH hw0 hF hform;obtain ⟨i0,hi,hz0,hz1,hz2⟩:=info_parts infoRun;have hla:(Tryz.prog.info? 31).map (·.size)=some (p19 p ca cc ka kc da dc).length:=by kernel_rfl
 have HA:Hid ((w.alloc (.cells (p19 p ca cc ka kc da dc).toArray 31)).heap[w.heap.size]? = some (.cells (p19 p ca cc ka kc da dc).toArray 31)):=alloc_at _ _;have HB1:Hid (Below w.heap.size w (w.alloc (.cells (p19 p ca cc ka kc da dc).toArray 31))):=z1B _;have HA2:Hid (((w.alloc (.cells (p19 p ca cc ka kc da dc).toArray 31)).alloc (.cells #[] 35)).heap[w.heap.size]? = some (.cells (p19 p ca cc ka kc da dc).toArray 31)):=z1F HA.out (z1B _);have HB2:Hid (Below w.heap.size w ((w.alloc (.cells (p19 p ca cc ka kc da dc).toArray 31)).alloc (.cells #[] 35))):=z1A HB1.out (z1B _);have HO2:Hid (x1G ((w.alloc (.cells (p19 p ca cc ka kc da dc).toArray 31)).alloc (.cells #[] 35)) (w.heap.size+1) (.slice (some ⟨(w.alloc (.cells (p19 p ca cc ka kc da dc).toArray 31)).heap.size,0,none⟩) 0 0) []):=x1G.lit (by simp);refine callsIn_of_wp Tryz.func22 rfl trivial ?_ rfl;simp only [Tryz.ntmps22,List.size_toArray,List.length_cons,List.length_nil,Nat.reduceAdd,Nat.reduceSub,Array.replicate_succ,Array.replicate_zero,List.push_toArray,List.append_toArray,List.nil_append,List.cons_append];gi_wp2_with fail;gi_loopw [6,15] (fun kv i wr=> ∃ (k:Nat) (zss:List (List It)) (qa:Option Addr) (qc:Nat),k<=p.kids.length/\i = .int .i64 k/\kv = .slice qa k qc/\Hid (x1G wr (w.heap.size+1) (.slice qa k qc) zss)/\Hid ((p.kids.take k).mapM (x1I fK n)=some zss)/\Hid (Below w.heap.size w wr/\wr.heap[w.heap.size]? = some (.cells (p19 p ca cc ka kc da dc).toArray 31))) (fun _ i _=>p.kids.length - (intOf i).toNat)
 case atStart=>exact ⟨0,[],_,0,Nat.zero_le _,rfl,rfl,by show x1G _ _ _ _; simpa using HO2.out,rfl,HB2.out,HA2.out⟩
 case round=>
  obtain ⟨k,zss,qa,qc,hk,rfl,rfl,HO,HM,HWR⟩:=hrel;clear HA HB1 HA2 HB2 HO2;obtain ⟨hbw,hbox⟩:=HWR.out;by_cases hlt:k<p.kids.length
  ·
   cases n with
   | zero=>cases p.kids[k]
   | succ m=>
   obtain ⟨_,a0,cap0,heq,-,hcs⟩:=id HKD.out;obtain ⟨kb,ko,rfl,hkb,hnode⟩:=hcs (fun h=>by rw [h] at hlt; exact absurd hlt (Nat.not_lt_zero _));obtain ⟨rfl,-,rfl⟩:da=some ⟨kb,ko,none⟩/\True/\dc=cap0:=by simpa using heq
   obtain ⟨x,HX⟩:∃ x,Hid (x=p.kids[k]):=⟨p.kids[k],Eq.refl p.kids[k]⟩;have hnd:=hnode k hlt;rw [<-HX.out] at hnd;obtain ⟨_,xc,xk,xv,hfl,hpr⟩:=hnd;obtain ⟨_,xa,xd,rfl,_⟩:=id hpr.2.2;obtain ⟨_,xca,xcc,rfl,_⟩:=id hpr.1;obtain ⟨_,xka,xkc,rfl,_⟩:=id hpr.2.1;have HRX:Hid (wr.rangeAt kb (ko+k*19) (p19 x xca xcc xka xkc xa xd)):=fun j v hv=>(hbw.cell (p:=⟨kb,ko+k*19+j,none⟩) hkb).trans (hfl.range j v hv);have hlx:(Tryz.prog.info? 31).map (·.size)=some (p19 x xca xcc xka xkc xa xd).length:=by kernel_rfl
   have h1x:(p19 x xca xcc xka xkc xa xd).toArray.all (·.oneCell')=true:=by simp [Value.oneCell']
   have hix:(Tryz.prog.info? 31).map (·.size)=some (p19 x xca xcc xka xkc xa xd).toArray.size:=by kernel_rfl
   have hszx:Pl.sz (m+1) x<=1048576:=by
    have h1:=k1B hlt;rw [<-HX.out] at h1;unfold k1X at h1;omega
   have hfx:∃ deep,v1P okT okC okK (m+1) x deep=true:=⟨_,HFORM.out.2.2 x (by rw [HX.out]; exact List.getElem_mem hlt)⟩;have ihx:=fun W5 (hb5:Below wr.heap.size wr W5)=>HIH.out m rfl x xca xka xa xcc xkc xd W5 (z1A HW0.out (z1A hbw hb5)) (hpr.below (z1A hbw hb5) fun b o y h=>NodeAt.below m h (z1A hbw hb5)) hszx hfx;have HIX:=hidden ihx;have hmt:=j3O (x1I fK (m+1)) p.kids k hlt zss HM.out;rw [<-HX.out] at hmt;obtain ⟨ps,hrow,hown⟩:=HO.out;have hzl:zss.length=k:=by rw [z2B _ _ _ HM.out,List.length_take]; omega
   have HROW:Hid (wr.ownsRow (w.heap.size+1) 35 1 (.slice qa k qc) k ps):=by have h:=hrow; rw [hzl] at h; exact h
   clear hnode hcs heq hfl hpr ihx hrow HKD;cases hx:x1I fK (m+1) x with
   | none=>
    gi_wp2_with (first | refine z1S rfl 31 _ rfl kb (ko+k*19) rfl _ _ HRX.out Tryz.underlying31 rfl hlx ?_ | refine z1S rfl 31 _ rfl wr.heap.size 0 rfl _ _ hr5 Tryz.underlying31 rfl hlx ?_ | (refine x1C rfl 31 _ _ rfl _ (p19 x xca xcc xka xkc xa xd).toArray _ (Eq.refl (wr.alloc _)) rfl rfl rfl hix h1x ?_; intro W5 hb5 hr5; have HB5:=hidden hb5; clear hb5) | ((try refine ⟨trivial,rfl,?_⟩); gi_at_call 22; refine (HIX.out _ HB5.out).mono ?_; rw [hx]; rintro e W4 ⟨v4,rfl,O4,hb4⟩; have HB4:=hidden (z1A (z1A hbw HB5.out) hb4); obtain ⟨ya,yn,yc,rfl⟩:=j1Q O4; clear O4 hb4));go_ret2;have hno:x1I fK (m+1+1) p=none:=by
     rw [z2H,j4W _ _ (k+1) (by rw [hmt,hx]; rfl)];rfl
    rw [hno];exact ⟨_,rfl,q1D _ _,HB4.out⟩
   | some z=>
    gi_wp2_with (first | refine z1S rfl 31 _ rfl kb (ko+k*19) rfl _ _ HRX.out Tryz.underlying31 rfl hlx ?_ | refine z1S rfl 31 _ rfl wr.heap.size 0 rfl _ _ hr5 Tryz.underlying31 rfl hlx ?_ | (refine x1C rfl 31 _ _ rfl _ (p19 x xca xcc xka xkc xa xd).toArray _ (Eq.refl (wr.alloc _)) rfl rfl rfl hix h1x ?_; intro W5 hb5 hr5; have HB5:=hidden hb5; clear hb5) | ((try refine ⟨trivial,rfl,?_⟩); gi_at_call 22; refine (HIX.out _ HB5.out).mono ?_; rw [hx]; rintro e W4 ⟨v4,rfl,O4,hb4⟩; obtain ⟨ya,yn,yc,rfl⟩:=j1Q O4; have HB4:=hidden (z1A HB5.out hb4); have HO4:=hidden O4; have hr4:=x1R (x1R HROW.out HB4.out) (z1B (.cells #[.slice ya yn yc] 35)); have hnews:∀ j u,([.slice ya yn yc]:List Value)[j]? = some u->(W4.alloc (.cells #[.slice ya yn yc] 35)).cell? ((⟨W4.heap.size,0,none⟩:Addr).add j)=some u:=(q3R _ _); clear O4 hb4) | (gi_at_builtin; refine wpListIn_append_own _ rfl _ _ 32 rfl (w.heap.size+1) 35 i0 (.slice none 0 0) 1 24 Tryz.underlying32 hi hz0 hz1 hz2 rfl (by decide) (.slice qa k qc) k ps rfl hr4 ⟨W4.heap.size,0,none⟩ 1 1 [.slice ya yn yc] rfl rfl hnews (by simp [Value.oneCell']) (by unfold maxLen; omega) (by omega) (by have h1:=hbw.size; have h2:=HB4.out.size; simp; omega) ?_; intro kv' W6 hown6 hgrow6 _));clear HIX HRX;have hr4':(W4.alloc (.cells #[.slice ya yn yc] 35)).ownsRow (w.heap.size+1) 35 1 (.slice qa k qc) zss.length ps:=by rw [hzl]; exact hr4
    have hown6':W6.ownsRow (w.heap.size+1) 35 1 kv' (zss.length+1) (ps++[.slice ya yn yc]):=by rw [hzl]; exact hown6
    have hpush:=x1G.push hr4' (fun j hj=>let ⟨lo,hi',h⟩:=hown j hj; ⟨lo,hi',(h.keep' HB4.out).keep' (z1B _)⟩) (HO4.out.keep' (z1B _)) hown6' hgrow6;have hblk:∀ b,(Value.slice qa k qc).ownBlock=some b->w.heap.size+1<=b:=fun b hb=>(hr4.lt b hb).1;have hb6:Below w.heap.size w W6:=(z1A (z1A hbw HB4.out) (z1B _)).grown hgrow6 (by have h1:=hbw.size; have h2:=HB4.out.size; simp; omega) (fun b hb=>by have:=hblk b hb; omega);have hbx6:=(hgrow6.block w.heap.size (by have h1:=(Array.getElem?_eq_some_iff.1 hbox).1; have h2:=HB4.out.size; simp; omega) (fun e=>by have:=hblk _ e.symm; omega)).trans (z1F (z1F hbox HB4.out) (z1B _));obtain ⟨g6,c6,rfl⟩:∃ g6 c6,kv' = .slice (some ⟨g6,0,none⟩) (k+1) c6:=by
     rcases hown6.2 with ⟨_,h0⟩ | ⟨g,cap,cur,hv,_⟩
     ·
      omega
     ·
      exact ⟨g,cap,hv⟩
    refine ⟨⟨k+1,zss++[z],some ⟨g6,0,none⟩,c6,by omega,rfl,rfl,hpush,?_,hb6,hbx6⟩,by simp [intOf]; omega⟩;show _=_;rw [hmt,hx];rfl
  ·
   have e:k=p.kids.length:=by omega
   subst e;have hzl:zss.length=p.kids.length:=by rw [z2B _ _ _ HM.out,List.length_take]; omega
   have hall:p.kids.mapM (x1I fK n)=some zss:=by have:=HM.out; rwa [List.take_length] at this
   have HRP:Hid (wr.rangeAt w.heap.size 0 (p19 p ca cc ka kc da dc)):=q1T hbox;have HZS:=hidden HO.out.at;have HKC:=hidden (HK.out p.nd _ _ (.slice da p.kids.length dc) p.kids.length wr (z1A HW0.out hbw) (HCS.out.below hbw) (HKS.out.below hbw) hlc hlk HFORM.out.2.1);have HALL:=hidden hall;clear HK HIH HCS HKS HKD hall;gi_wp2_with (first | refine z1S rfl 31 _ rfl w.heap.size 0 rfl _ _ HRP.out Tryz.underlying31 rfl hla ?_ | ((try refine ⟨trivial,rfl,?_⟩); gi_at_call 58; refine callsIn_wide.2 (HKC.out.mono ?_); rintro e W7 ⟨T,y,fm,rfl,hb7,hmt,hen,hfm⟩; have HFM:=hidden hfm; have HB7:=hidden hb7; clear hfm hb7) | ((try refine ⟨trivial,rfl,?_⟩); refine callsIn_wide.2 ((HFM.out W7 qa _ qc zss (Below.refl _ _) (HZS.out.below HB7.out) hzl).mono ?_); rintro e W8 ⟨v8,rfl,O8,hb8⟩; obtain ⟨ya,yn,yc,rfl⟩:=j1Q O8; have HB8:=hidden (z1A (z1A hbw HB7.out) hb8); have HO8:=hidden (O8.wide (z1A hbw HB7.out).size (Nat.le_refl _) (Nat.le_refl _)); clear O8 hb8));go_ret2;have hm:told (x1I fK (n+1) p)=fK p.nd zss:=by
    rw [z2H,HALL.out];show told (if (fK p.nd zss).1 then some (fK p.nd zss).2 else none)=_;cases h1:(fK p.nd zss).1 with
    | true=>rw [if_pos rfl]; exact Prod.ext h1.symm rfl
    | false=>rw [if_neg (by decide)]; exact Prod.ext h1.symm (HF.out _ _ h1).symm
   rw [hm];exact ⟨_,rfl,HO8.out,HB8.out⟩
theorem x5T (w0:World) (ta:Option Addr) (tn tc:Nat) (fK:Nd->List (List It)->Told) (okT:Tst->Bool) (okC:Cel->Bool) (okK:List Int->Bool) (hF:∀ d ks,(fK d ks).1=false->(fK d ks).2=[]) (hK:q4N w0 ta tn tc fK okT okC okK):∀ n,x6J w0 ta tn tc fK okT okC okK n:=by
 intro n;induction n with
 | zero=>exact j3N w0 ta tn tc fK okT okC okK hF hK 0 (fun m h=>by cases h)
 | succ n ih=>exact j3N w0 ta tn tc fK okT okC okK hF hK (n+1) (fun m h=>by cases h; exact ih)
end Go.Proofs.YtmjaepdplbgohaaGreatDoor.Kd
namespace Go.Proofs.YtmjaepdplbgohaaGreatDoor.Kd
open Go.RowKit Go.Shelf
def z5O (w:World) (fW:Tst->List It->Told) (fM:List Cel->List It->Told) (fJ:List It->List It->Int->Int->Told) (fA:List It->List It->Told) (fP:List It->List It) (fG:List It->List Int->Int->Int->Told):Prop:=
 (∀ (t:Tst) (v:Value) (z:List It) (w':World),Below w.heap.size w w'->q1Y w' v z->Calls Tryz.prog 8 #[v,.agg (t10 t).toArray] w' (v1A w' (fW t z))) ∧
 (∀ (cs:List Cel) (u v:Value) (z:List It) (w':World),Below w.heap.size w w'->q1Y w' v z->q1J w' u cs->cs.length<=1048576->Calls Tryz.prog 9 #[v,u] w' (v1A w' (fM cs z))) ∧
 (∀ (v u:Value) (y z:List It) (a b:Int) (w':World),Below w.heap.size w w'->q1Y w' v y->q1Y w' u z->Calls Tryz.prog 10 #[v,u,.int .i64 a,.int .i64 b] w' (v1A w' (fJ y z a b))) ∧
 (∀ (v u:Value) (y z:List It) (w':World),Below w.heap.size w w'->q1Y w' v y->q1Y w' u z->Calls Tryz.prog 11 #[v,u] w' (v1A w' (fA y z))) ∧
 (∀ (v:Value) (z:List It) (w':World),Below w.heap.size w w'->q1Y w' v z->Calls Tryz.prog 12 #[v] w' fun e w2=> ∃ v',e = .returned v'/\z1V w2 w'.heap.size w2.heap.size v' (fP z)/\Below w'.heap.size w' w2) ∧
 (∀ (ks:List Int) (u v:Value) (z:List It) (g c:Int) (w':World),Below w.heap.size w w'->q1Y w' v z->RawInts w' u ks->ks.length<=1048576->Calls Tryz.prog 13 #[v,u,.int .i64 g,.int .i64 c] w' (v1A w' (fG z ks g c)))
def j1V (ts:List (List It)) (fW:Tst->List It->Told) (fM:List Cel->List It->Told) (fJ:List It->List It->Int->Int->Told) (fA:List It->List It->Told) (fP:List It->List It) (fG:List It->List Int->Int->Int->Told) (d:Nd) (ks:List (List It)):Told:=
 if d.k=1 then v4L ts d.n else if d.k=2 then fW d.t (ks.getD 0 []) else if d.k=3 then fM d.cs (ks.getD 0 []) else if d.k=4 then fJ (ks.getD 0 []) (ks.getD 1 []) d.a d.b else if d.k=5 then fA (ks.getD 0 []) (ks.getD 1 []) else if d.k=6 then (true,fP (ks.getD 0 [])) else fG (ks.getD 0 []) d.ks d.g d.c
theorem mMean1 (v:Value) (w:World):(Go.method 381 139 v "loop.example/milldam/impl.mean").run Tryz.prog w = .ok (203,v) w:=by kernel_rfl
theorem mMean2 (v:Value) (w:World):(Go.method 381 142 v "loop.example/milldam/impl.mean").run Tryz.prog w = .ok (208,v) w:=by kernel_rfl
theorem mMean3 (v:Value) (w:World):(Go.method 381 144 v "loop.example/milldam/impl.mean").run Tryz.prog w = .ok (214,v) w:=by kernel_rfl
theorem mMean4 (v:Value) (w:World):(Go.method 381 147 v "loop.example/milldam/impl.mean").run Tryz.prog w = .ok (219,v) w:=by kernel_rfl
theorem mMean5 (v:Value) (w:World):(Go.method 381 149 v "loop.example/milldam/impl.mean").run Tryz.prog w = .ok (223,v) w:=by kernel_rfl
theorem mMean6 (v:Value) (w:World):(Go.method 381 151 v "loop.example/milldam/impl.mean").run Tryz.prog w = .ok (227,v) w:=by kernel_rfl
theorem mMean7 (v:Value) (w:World):(Go.method 381 153 v "loop.example/milldam/impl.mean").run Tryz.prog w = .ok (231,v) w:=by kernel_rfl
theorem x4D (w0:World) (ta:Option Addr) (tn tc:Nat) (ts:List (List It)) (ht:ZssAt w0 (.slice ta tn tc) ts) (okT:Tst->Bool) (okC:Cel->Bool) (okK:List Int->Bool) (fW:Tst->List It->Told) (fM:List Cel->List It->Told) (fJ:List It->List It->Int->Int->Told) (fA:List It->List It->Told) (fP:List It->List It) (fG:List It->List Int->Int->Int->Told) (hM:z5O w0 fW fM fJ fA fP fG):q4N w0 ta tn tc (j1V ts fW fM fJ fA fP fG) okT okC okK:=by
 intro d vc vk vd k w hw hc hk hl1 hl3 hix;obtain ⟨_,ca,cc,rfl,hcn,hcx⟩:=id hc;obtain ⟨_,ka,kc,rfl,hkn,hkx⟩:=id hk;unfold j1R at hix;by_cases e1:d.eqB (q2H d)=true
 ·
  rw [if_pos e1] at hix;obtain ⟨hk0,-⟩:=Prod.mk.inj (Option.some.inj hix);have hd:=Nd.eqB_iff.1 e1;have hdk:d.k=1:=congrArg Nd.k hd;refine (k4N d ca ka _ cc _ kc vd w hc hk (by omega) (by omega) hd).mono ?_;rintro e w1 ⟨⟨v,rfl,rfl⟩,hb1⟩;refine ⟨_,_,203,rfl,hb1,mMean1 _,enters_of Tryz.func203 (by kernel_rfl) rfl,?_⟩;have hf:∀ ks,j1V ts fW fM fJ fA fP fG d ks=v4L ts d.n:=fun ks=>by simp [j1V,hdk]
  simp only [hf];exact fun w3 a n cap ks hb hz hl=>q6G d.n a ta n cap tn tc ts w3 (ht.below (z1A hw (z1A hb1 hb)))
 rw [if_neg e1] at hix;by_cases e2:d.eqB (q2G d)=true
 ·
  rw [if_pos e2] at hix;obtain ⟨hk0,-⟩:=Prod.mk.inj (Option.some.inj hix);have hd:=Nd.eqB_iff.1 e2;have hdk:d.k=2:=congrArg Nd.k hd;refine (k4M d ca ka _ cc _ kc vd w hc hk (by omega) (by omega) hd).mono ?_;rintro e w1 ⟨⟨v,rfl,rfl⟩,hb1⟩;refine ⟨_,_,208,rfl,hb1,mMean2 _,enters_of Tryz.func208 (by kernel_rfl) rfl,?_⟩;have hf:∀ ks,j1V ts fW fM fJ fA fP fG d ks=fW d.t (ks.getD 0 []):=fun ks=>by simp [j1V,hdk]
  simp only [hf];exact fun w3 a n cap ks hb hz hl=>q6F d.t a ta n cap tn tc ks w3 hz (by omega) _ (fun v w' h2 h3=>hM.1 d.t v _ w' (z1A hw (z1A hb1 (z1A hb h2))) h3)
 rw [if_neg e2] at hix;by_cases e3:d.eqB (q2F d)=true
 ·
  rw [if_pos e3] at hix;obtain ⟨hk0,-⟩:=Prod.mk.inj (Option.some.inj hix);have hd:=Nd.eqB_iff.1 e3;have hdk:d.k=3:=congrArg Nd.k hd;refine (k4L d ca ka _ cc _ kc vd w hc hk (by omega) (by omega) hd).mono ?_;rintro e w1 ⟨⟨v,rfl,rfl⟩,hb1⟩;refine ⟨_,_,214,rfl,hb1,mMean3 _,enters_of Tryz.func214 (by kernel_rfl) rfl,?_⟩;have hf:∀ ks,j1V ts fW fM fJ fA fP fG d ks=fM d.cs (ks.getD 0 []):=fun ks=>by simp [j1V,hdk]
  simp only [hf];exact fun w3 a n cap ks hb hz hl=>meanMap ca _ cc a ta n cap tn tc ks w3 hz (by omega) _ (fun v w' h2 h3=>hM.2.1 d.cs _ v _ w' (z1A hw (z1A hb1 (z1A hb h2))) h3 (hc.below (z1A hb1 (z1A hb h2))) hl1)
 rw [if_neg e3] at hix;by_cases e4:d.eqB (q2E d)=true
 ·
  rw [if_pos e4] at hix;obtain ⟨hk0,-⟩:=Prod.mk.inj (Option.some.inj hix);have hd:=Nd.eqB_iff.1 e4;have hdk:d.k=4:=congrArg Nd.k hd;refine (k4K d ca ka _ cc _ kc vd w hc hk (by omega) (by omega) hd).mono ?_;rintro e w1 ⟨⟨v,rfl,rfl⟩,hb1⟩;refine ⟨_,_,219,rfl,hb1,mMean4 _,enters_of Tryz.func219 (by kernel_rfl) rfl,?_⟩;have hf:∀ ks,j1V ts fW fM fJ fA fP fG d ks=fJ (ks.getD 0 []) (ks.getD 1 []) d.a d.b:=fun ks=>by simp [j1V,hdk]
  simp only [hf];exact fun w3 a n cap ks hb hz hl=>meanJoin d.a d.b a ta n cap tn tc ks w3 hz (by omega) _ (fun v u w' h2 h3 h4=>hM.2.2.1 v u _ _ d.a d.b w' (z1A hw (z1A hb1 (z1A hb h2))) h3 h4)
 rw [if_neg e4] at hix;by_cases e5:d.eqB (q2D d)=true
 ·
  rw [if_pos e5] at hix;obtain ⟨hk0,-⟩:=Prod.mk.inj (Option.some.inj hix);have hd:=Nd.eqB_iff.1 e5;have hdk:d.k=5:=congrArg Nd.k hd;refine (k4J d ca ka _ cc _ kc vd w hc hk (by omega) (by omega) hd).mono ?_;rintro e w1 ⟨⟨v,rfl,rfl⟩,hb1⟩;refine ⟨_,_,223,rfl,hb1,mMean5 _,enters_of Tryz.func223 (by kernel_rfl) rfl,?_⟩;have hf:∀ ks,j1V ts fW fM fJ fA fP fG d ks=fA (ks.getD 0 []) (ks.getD 1 []):=fun ks=>by simp [j1V,hdk]
  simp only [hf];exact fun w3 a n cap ks hb hz hl=>meanBoth a ta n cap tn tc ks w3 hz (by omega) _ (fun v u w' h2 h3 h4=>hM.2.2.2.1 v u _ _ w' (z1A hw (z1A hb1 (z1A hb h2))) h3 h4)
 rw [if_neg e5] at hix;by_cases e6:d.eqB (q2C d)=true
 ·
  rw [if_pos e6] at hix;obtain ⟨hk0,-⟩:=Prod.mk.inj (Option.some.inj hix);have hd:=Nd.eqB_iff.1 e6;have hdk:d.k=6:=congrArg Nd.k hd;refine (k4I d ca ka _ cc _ kc vd w hc hk (by omega) (by omega) hd).mono ?_;rintro e w1 ⟨⟨v,rfl,rfl⟩,hb1⟩;refine ⟨_,_,227,rfl,hb1,mMean6 _,enters_of Tryz.func227 (by kernel_rfl) rfl,?_⟩;have hf:∀ ks,j1V ts fW fM fJ fA fP fG d ks=(true,fP (ks.getD 0 [])):=fun ks=>by simp [j1V,hdk]
  simp only [hf];exact fun w3 a n cap ks hb hz hl=>meanOnce a ta n cap tn tc ks w3 hz (by omega) (true,fP (ks.getD 0 [])) rfl (fun v w' h2 h3=>hM.2.2.2.2.1 v _ w' (z1A hw (z1A hb1 (z1A hb h2))) h3)
 rw [if_neg e6] at hix;by_cases e7:d.eqB (q2O d)=true
 ·
  rw [if_pos e7] at hix;obtain ⟨hk0,-⟩:=Prod.mk.inj (Option.some.inj hix);have hd:=Nd.eqB_iff.1 e7;have hdk:d.k=7:=congrArg Nd.k hd;refine (k4H d ca ka _ cc _ kc vd w hc hk (by omega) (by omega) hd).mono ?_;rintro e w1 ⟨⟨v,rfl,rfl⟩,hb1⟩;refine ⟨_,_,231,rfl,hb1,mMean7 _,enters_of Tryz.func231 (by kernel_rfl) rfl,?_⟩;have hf:∀ ks,j1V ts fW fM fJ fA fP fG d ks=fG (ks.getD 0 []) d.ks d.g d.c:=fun ks=>by simp [j1V,hdk]
  simp only [hf];exact fun w3 a n cap ks hb hz hl=>q6H ka _ kc d.g d.c a ta n cap tn tc ks w3 hz (by omega) _ (fun v w' h2 h3=>hM.2.2.2.2.2 d.ks _ v _ d.g d.c w' (z1A hw (z1A hb1 (z1A hb h2))) h3 (hk.below (z1A hb1 (z1A hb h2))) hl3)
 rw [if_neg e7] at hix;cases hix
theorem cnt_pos {n:Nat} (p:Pl (n+1)):0<cnt (n+1) p:=by rw [k2Y]; omega
def j3M (okT:Tst->Bool) (okC:Cel->Bool) (okK:List Int->Bool) (fK:Nd->List (List It)->Told) (tn n:Nat) (p:Pl n):Told:=if q3V okT okC okK n p=true/\tn<=3 then told (x1I fK n p) else (false,[])
theorem fKof_bad {ts:List (List It)} {fW:Tst->List It->Told} {fM:List Cel->List It->Told} {fJ:List It->List It->Int->Int->Told} {fA:List It->List It->Told} {fP:List It->List It} {fG:List It->List Int->Int->Int->Told}
  (h1:∀ t z,(fW t z).1=false->(fW t z).2=[]) (h2:∀ t z,(fM t z).1=false->(fM t z).2=[]) (h3:∀ x y a b,(fJ x y a b).1=false->(fJ x y a b).2=[]) (h4:∀ x y,(fA x y).1=false->(fA x y).2=[]) (h5:∀ x k a b,(fG x k a b).1=false->(fG x k a b).2=[]) :
  ∀ d ks,(j1V ts fW fM fJ fA fP fG d ks).1=false->(j1V ts fW fM fJ fA fP fG d ks).2=[]:=by
 intro d ks;unfold j1V v4L;repeat' split
 all_goals first | exact h1 _ _ | exact h2 _ _ | exact h3 _ _ _ _ | exact h4 _ _ | exact h5 _ _ _ _ | exact fun _=>rfl | (intro h; cases h)
theorem x4N (n:Nat) (p:Pl (n+1)) (ca ka da:Option Addr) (cc kc dc:Nat) (w:World) (hp:q1X (NodeAt n) w p.nd p.kids (.slice ca p.nd.cs.length cc) (.slice ka p.nd.ks.length kc) (.slice da p.kids.length dc)) (hz:Pl.sz (n+1) p<=1048576) (hn:n<=1048576) (pa:Addr) (hN:NoPlan w pa) (okT:Tst->Bool) (okC:Cel->Bool) (okK:List Int->Bool) (hO:z3C w okT okC okK)
  (ta:Option Addr) (tn tc:Nat) (ts:List (List It)) (ht:ZssAt w (.slice ta tn tc) ts) (fW:Tst->List It->Told) (fM:List Cel->List It->Told) (fJ:List It->List It->Int->Int->Told) (fA:List It->List It->Told) (fP:List It->List It) (fG:List It->List Int->Int->Int->Told) (hM:z5O w fW fM fJ fA fP fG) (hF:∀ d ks,(j1V ts fW fM fJ fA fP fG d ks).1=false->(j1V ts fW fM fJ fA fP fG d ks).2=[]) :
  Calls Tryz.prog 5 #[.agg (p19 p ca cc ka kc da dc).toArray,.slice ta tn tc] w (v1A w (j3M okT okC okK (j1V ts fW fM fJ fA fP fG) tn (n+1) p)):=by
 have hla:(Tryz.prog.info? 31).map (·.size)=some (p19 p ca cc ka kc da dc).length:=by kernel_rfl
 have HB:Hid (Below w.heap.size w (w.alloc (.cells (p19 p ca cc ka kc da dc).toArray 31))):=z1B _;have HA:Hid ((w.alloc (.cells (p19 p ca cc ka kc da dc).toArray 31)).heap[w.heap.size]? = some (.cells (p19 p ca cc ka kc da dc).toArray 31)):=alloc_at _ _;have HR:Hid ((w.alloc (.cells (p19 p ca cc ka kc da dc).toArray 31)).rangeAt w.heap.size 0 (p19 p ca cc ka kc da dc)):=q1T HA.out;have HMANY:=hidden (j4P n p _ _ da dc _ (hp.below HB.out fun b o x h=>NodeAt.below n h HB.out) hz hn pa (hN.below HB.out) okT okC okK (hO.below HB.out));have HMEAN:Hid (∀ w',Below w.heap.size w w'->q3V okT okC okK (n+1) p=true->Calls Tryz.prog 22 #[.agg (p19 p ca cc ka kc da dc).toArray,.slice ta tn tc] w' (v1A w' (told (x1I (j1V ts fW fM fJ fA fP fG) (n+1) p)))):=fun w' hb hc=>
  callsIn_wide.1 (x5T w ta tn tc (j1V ts fW fM fJ fA fP fG) okT okC okK hF (x4D w ta tn tc ts ht okT okC okK fW fM fJ fA fP fG hM) n p ca ka da cc kc dc w' hb (hp.below hb fun b o x h=>NodeAt.below n h hb) hz ⟨6,by simp only [q3V,Bool.and_eq_true] at hc; exact hc.1⟩)
 clear hp hz hn hN hO ht hM hF;by_cases hc:q3V okT okC okK (n+1) p=true
 ·
  have hpos:=cnt_pos p;have hm:manyP okT okC okK (n+1) p=cnt (n+1) p:=if_pos hc;rw [hm] at HMANY;have h0:((cnt (n+1) p:Int)==0)=false:=by simp; omega
  obtain ⟨N,hN⟩:∃ N:Int,N=(cnt (n+1) p:Int):=⟨_,rfl⟩;rw [<-hN] at HMANY h0;clear hN hm hpos;by_cases h3:tn<=3
  ·
   have hT:j3M okT okC okK (j1V ts fW fM fJ fA fP fG) tn (n+1) p=told (x1I (j1V ts fW fM fJ fA fP fG) (n+1) p):=if_pos ⟨hc,h3⟩;rw [hT];have HC:=hidden hc;have h3':(tn:Int)<=3:=by omega
   clear hT hc;go_enter Tryz.func5,Tryz.ntmps5;go_wp2_with (first | refine wpList_load_mid rfl 31 _ rfl w.heap.size 0 rfl _ _ HR.out Tryz.underlying31 rfl hla ?_ | refine wpList_load_mid rfl 31 _ rfl w.heap.size 0 rfl _ _ HR1.out Tryz.underlying31 rfl hla ?_ | (go_at_call 21; refine HMANY.out.mono ?_; rintro e w1 ⟨rfl,hb1⟩; have HB1:=hidden (z1A HB.out hb1); have HR1:=hidden (q1T (z1F HA.out hb1)); clear hb1) | (go_at_call 22; refine (HMEAN.out _ HB1.out HC.out).mono ?_; rintro e w2 ⟨v2,rfl,O2,hb2⟩; obtain ⟨qa,qn,qc,rfl⟩:=j1Q O2; have HO2:=hidden (O2.wide HB1.out.size (Nat.le_refl _) (Nat.le_refl _)); have HB2:=hidden (z1A HB1.out hb2); clear O2 hb2));go_ret2;exact ⟨_,rfl,HO2.out,HB2.out⟩
  ·
   have hT:j3M okT okC okK (j1V ts fW fM fJ fA fP fG) tn (n+1) p=(false,[]):=if_neg (fun h=>h3 h.2);rw [hT];have h3':3<(tn:Int):=by omega
   clear hT hc HMEAN;go_enter Tryz.func5,Tryz.ntmps5;go_wp2_with (first | refine wpList_load_mid rfl 31 _ rfl w.heap.size 0 rfl _ _ HR.out Tryz.underlying31 rfl hla ?_ | (go_at_call 21; refine HMANY.out.mono ?_; rintro e w1 ⟨rfl,hb1⟩; have HB1:=hidden (z1A HB.out hb1); clear hb1));go_ret2;exact ⟨_,rfl,q1D _ _,HB1.out⟩
 ·
  have hm:manyP okT okC okK (n+1) p=0:=if_neg hc;rw [hm] at HMANY;have hT:j3M okT okC okK (j1V ts fW fM fJ fA fP fG) tn (n+1) p=(false,[]):=if_neg (fun h=>hc h.1);rw [hT];clear hT hc HMEAN hm;go_enter Tryz.func5,Tryz.ntmps5;go_wp2_with (first | refine wpList_load_mid rfl 31 _ rfl w.heap.size 0 rfl _ _ HR.out Tryz.underlying31 rfl hla ?_ | (go_at_call 21; refine HMANY.out.mono ?_; rintro e w1 ⟨rfl,hb1⟩; have HB1:=hidden (z1A HB.out hb1); clear hb1));go_ret2;exact ⟨_,rfl,q1D _ _,HB1.out⟩
end Go.Proofs.YtmjaepdplbgohaaGreatDoor.Kd
