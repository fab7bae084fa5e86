/- Part of the proof of laws.FnMean: DrawZ, DrawTab. -/
import Derived.Test.YtmjaepdplbgohaaGreatDoorPkF
import Derived.Test.YtmjaepdplbgohaaGreatDoorPkD
import Derived.Test.YtmjaepdplbgohaaGreatDoorPkM
import Derived.Test.YtmjaepdplbgohaaGreatDoorPkQ
import Derived.Test.YtmjaepdplbgohaaGreatDoorPkH
set_option maxRecDepth 100000
set_option maxHeartbeats 16000000
set_option linter.unusedVariables false
set_option linter.unusedSimpArgs false
namespace Go.Proofs.YtmjaepdplbgohaaGreatDoor
open Go.RowKit
def q2Y (B:Int) (zs:List It):Prop:=∀ p∈zs,p.1.length<=7/\v2W p.1/\-B<=p.2/\p.2<=B
def x2N (zs:List It):Prop:=zs.length<=200/\q2Y 1000000 zs
theorem q4D {B C:Int} {zs:List It} {r:List Int} {y:Int} (h:q2Y B zs) (hB:0<=B) (hC:0<=C) (hr:r.length<=7) (hs:v2W r) (hy : -C<=y/\y<=C):q2Y (B+C) (putZ zs r y):=fun x hx=>by
 have h2:=j3I (r:=r) hy hB hC (fun p hp=>(h p hp).2.2) x hx
 rcases z3N hx with hm | hm
 ·
  exact ⟨(h x hm).1,(h x hm).2.1,h2⟩
 ·
  rw [hm]; exact ⟨hr,hs,h2⟩
theorem q2Y.at {B:Int} {zs:List It} (h:q2Y B zs) (hB:B<=1000000):∀ j,j<zs.length->-4611686018427387904<=(zs.getD j ([],0)).2/\(zs.getD j ([],0)).2<=4611686018427387903:=fun j hj=>by
 have:=(h _ (x1O hj)).2.2
 omega
theorem q2Y.up {B C:Int} {zs:List It} (h:q2Y B zs) (hBC:B<=C):q2Y C zs:=fun p hp=>by
 have:=h p hp
 exact ⟨this.1,this.2.1,by omega,by omega⟩
theorem z3Q {w0 a b:World} {g hi:Nat} (h:w0.grownBy a (some g)) (k:Only w0.heap.size hi a b):w0.grownBy b (some g):=
 ⟨k.os.trans h.os,k.tape.trans h.tape,k.output.trans h.output,Nat.le_trans h.size k.size,fun i hi' hne=>(k.block i (Nat.lt_of_lt_of_le hi' h.size) (.inl hi')).trans (h.block i hi' hne)⟩
theorem Rd.only {w w':World} {g P lo hi:Nat} (h:Rd w g P) (k:Only lo hi w w') (hg:g<lo):Rd w' g P:=by
 have hgl:=h.lt;obtain ⟨ab,nb,cb,p,zs,hh,hp,hn,hc,hz⟩:=h;refine ⟨ab,nb,cb,p,zs,(k.block g hgl (.inl hg)).trans hh,hp,hn,fun h0=> ?_,hz⟩;obtain ⟨b,off,rfl,hbg,hbl,hcell⟩:=hc h0;exact ⟨b,off,rfl,hbg,Nat.lt_of_lt_of_le hbl k.size,fun j hj=>(World.cell?_of_block (k.block b hbl (.inl (by omega)))).trans (hcell j hj)⟩
theorem z1V.far {w w':World} {lo hi g:Nat} {v:Value} {zs:List It} (h:z1V w lo hi v zs) (hg:w.grownBy w' (some g)) (hlt:g<lo):z1V w' lo hi v zs:=
 h.only (lo:=g) (hi:=g+1) (Only.of_grown hg (fun k hk=>by simp at hk; omega)) (.inr hlt)
theorem Own.far {w w':World} {lo hi g:Nat} {v:Value} {xs:List Int} (h:Own w lo hi v xs) (hg:w.grownBy w' (some g)) (hlt:g<lo):Own w' lo hi v xs:=
 h.only (lo:=g) (hi:=g+1) (Only.of_grown hg (fun k hk=>by simp at hk; omega)) (.inr hlt)
theorem z1P.tailZ {w:World} {lo hi:Nat} {v:Value} {l:List Rw} (S:z1P w lo hi v (prs l)) (hr:j1T w l):q1Y w v (its l):=by
 refine ⟨l,rfl,⟨S.pairs hr.shape,?_⟩,hr⟩;rcases S.1.2 with ⟨rfl,h0⟩ | ⟨g,cap,cur,rfl,_,_,hnc,hcm,_⟩
 ·
  exact ⟨none,0,by rw [h0],by omega,by omega⟩
 ·
  exact ⟨_,cap,rfl,hnc,by have:=hcm; simp only [maxLen] at this; omega⟩
theorem prs_set (l:List Rw) (k:Nat) (x:Rw):prs (l.set k x)=(prs l).set k (x.1,x.2.2):=by simp [prs,List.map_set]
theorem its_set (l:List Rw) (k:Nat) (x:Rw):its (l.set k x)=(its l).set k x.2:=by simp [its,List.map_set]
theorem small_nil:v2W []:=fun x hx=>by simp at hx
theorem k5X {x:Int} (h : -2000000000<=x/\x<=2000000000):v2W [x]:=fun y hy=>by simp at hy; rw [hy]; exact h
theorem q5X {B:Int} {zs:List It} {k:Nat} {p:It} (h:q2Y B zs) (hp:p.1.length<=7/\v2W p.1/\-B<=p.2/\p.2<=B):q2Y B (zs.set k p):=fun x hx=>by
 rcases List.mem_or_eq_of_mem_set hx with e | e
 ·
  exact h x e
 ·
  rw [e]; exact hp
def SW (m:Nat) (zs:List It):Prop:=Srt zs/\∀ p∈zs,p.1.length=m
def q2J (zs:List It):Prop:=∃ m,∀ p∈zs,p.1.length=m
theorem sw_nil (m:Nat):SW m []:=⟨Srt.nil,fun p hp=>by simp at hp⟩
theorem sw_put {m:Nat} {zs:List It} {r:List Int} (y:Int) (h:SW m zs) (hr:r.length=m):SW m (putZ zs r y):=⟨v2O h.1,fun p hp=>by
 rcases z3N hp with h1 | h1
 ·
  exact h.2 p h1
 ·
  rw [h1]; exact hr⟩
theorem SW.one {m:Nat} {zs:List It} (h:SW m zs):q2J zs:=⟨m,h.2⟩
theorem one_nil:q2J []:=⟨0,fun p hp=>by simp at hp⟩
theorem one_set {m:Nat} {zs:List It} {k:Nat} (h:SW m zs) (hk:k<zs.length) (z:Int):q2J (zs.set k ((zs.getD k ([],0)).1,z)):=⟨m,fun p hp=>by
 rcases List.mem_or_eq_of_mem_set hp with e | e
 ·
  exact h.2 p e
 ·
  rw [e]; show (zs.getD k ([],0)).1.length=m; exact h.2 _ (x1O hk)⟩
theorem none_set {zs:List It} {k:Nat} (hk:k<zs.length) (z:Int) (h:q1G (zs.set k ([],z))=true):q2J (zs.set k ([],z)):=by
 have hm:(([],z):It)∈zs.set k ([],z):=List.mem_iff_getElem.2 ⟨k,by simpa using hk,by simp⟩;have:=(z3E h hm).1;simp [z1R] at this
def Q3 (m j:Nat) (ys:List It):Prop:=Srt ys/\(∀ p∈ys,p.1.length=m\/∃ i:Nat,i<j/\p.1=[10+(i:Int)])/\(m≠1->∀ i:Nat,i<j->z2V ys [10+(i:Int)]=1)
theorem q3_start {m:Nat} {zs:List It} (h:SW m zs):Q3 m 0 zs:=⟨h.1,fun p hp=> .inl (h.2 p hp),fun _ i hi=>by omega⟩
theorem q3_next {m j:Nat} {ys:List It} (h:Q3 m j ys):Q3 m (j+1) (putZ ys [10+(j:Int)] 1):=by
 refine ⟨v2O h.1,fun p hp=> ?_,fun hm i hi=> ?_⟩
 ·
  rcases z3N hp with h1 | h1
  ·
   rcases h.2.1 p h1 with e | ⟨i,hi,e⟩
   ·
    exact .inl e
   ·
    exact .inr ⟨i,by omega,e⟩
  ·
   exact .inr ⟨j,by omega,h1⟩
 ·
  rw [k2Q h.1];by_cases e:i=j
  ·
   subst e;have h0:z2V ys [10+(i:Int)]=0:=x2K fun p hp e1=>by
    rcases h.2.1 p hp with e2 | ⟨k,hk,e2⟩
    ·
     rw [e1] at e2; simp at e2; omega
    ·
     rw [e1] at e2; simp at e2; omega
   rw [h0,if_pos rfl]; rfl
  ·
   have hne:¬ ([10+(j:Int)]=[10+(i:Int)]):=fun e2=>e (by simp at e2; omega);rw [if_neg hne,h.2.2 hm i (by omega)]; rfl
theorem many_rows:∀ (m:Nat) (ys:List It),(∀ i:Nat,i<m->∃ p∈ys,p.1=[10+(i:Int)])->m<=ys.length
 | 0,_,_=>Nat.zero_le _
 | m+1,ys,h=>by
  have h1:=x4R [10+(m:Int)] ys (h m (by omega))
  have h2:=many_rows m (ys.filter fun q=>decide (q.1≠[10+(m:Int)])) (fun i hi=>by
   obtain ⟨p,hp,e⟩:=h i (by omega)
   refine ⟨p,List.mem_filter.2 ⟨hp,?_⟩,e⟩
   simp only [decide_eq_true_eq,e]
   intro e2
   simp at e2
   omega)
  omega
theorem q3_end {m:Nat} {ys:List It} (h:Q3 m 101 ys) (hz:q1G ys=true):q2J ys:=by
 by_cases hm:m=1
 ·
  refine ⟨1,fun p hp=> ?_⟩;rcases h.2.1 p hp with e | ⟨i,_,e⟩
  ·
   rw [e,hm]
  ·
   rw [e]; rfl
 ·
  have h1:=many_rows 101 ys (fun i hi=>v5Q (by rw [h.2.2 hm i hi]; omega));have h2:=v1B hz;omega
def k1F (w:World) (B:Nat) (v:Value) (zs:List It):Prop:=∀ w'',Only 0 B w w''->q1Y w'' v zs
theorem z1V.drawnB {w:World} {lo hi:Nat} {v:Value} {zs:List It} (h:z1V w lo hi v zs):k1F w lo v zs:=fun _ hw=>(h.only hw (.inr (Nat.le_refl _))).tail
theorem k1F.low {w:World} {B B':Nat} {v:Value} {zs:List It} (h:k1F w B v zs) (hb:B'<=B):k1F w B' v zs:=fun w'' k=>h w'' ⟨k.os,k.tape,k.output,k.size,fun i hi hr=>k.block i hi (by omega)⟩
theorem k1F.only {w w':World} {B:Nat} {v:Value} {zs:List It} (h:k1F w B v zs) (k:Only 0 B w w'):k1F w' B v zs:=fun w'' k'=>h w'' (k.trans k')
theorem k1F.now {w:World} {B:Nat} {v:Value} {zs:List It} (h:k1F w B v zs):q1Y w v zs:=h w (Only.refl _ _ _)
theorem z4L {w w':World} {row:Option Nat} {B:Nat} (h:w.grownBy w' row) (hr:∀ k,row=some k->k<B):Only 0 B w w':=Only.of_grown h (fun k e=>⟨Nat.zero_le _,hr k e⟩)
theorem z4P (g P:Nat) (wd most:Int) (w:World) (h0:0<=wd) (h7:wd<=7) (hm0:0<=most) (hm:most<=40) (hP:P<=1099511620000) (h:Rd w g P) :
  Calls Tryz.prog 55 #[.pointer (some ⟨g,0,none⟩),.int .i64 wd,.int .i64 most] w fun e w'=>
   ∃ v,e = .returned v/\∃ zs:List It,(zs.length:Int)<=most/\q2Y 200 zs/\SW wd.toNat zs/\z1V w' w.heap.size w'.heap.size v zs/\Rd w' g (P+400)/\w.grownBy w' (some g):=by
 have hgw:=h.lt;have Z1:z1V (w.alloc (.cells #[] 47)) w.heap.size (w.alloc (.cells #[] 47)).heap.size (.slice (some ⟨w.heap.size,0,none⟩) 0 0) []:=z1T w;have hr1:Rd (w.alloc (.cells #[] 47)) g P:=h.below (z1C _);clear h;go_enter Tryz.func55,Tryz.ntmps55;go_wp2_with fail;refine (z1L g P (most+1) _ (by omega) (by omega) (by omega) hr1).mono ?_;rintro e w1 ⟨m,hm1,hm2,rfl,hrd1,hg1⟩;obtain ⟨m,rfl⟩:=Int.eq_ofNat_of_zero_le hm1;have HZ1:Hid (z1V w1 w.heap.size w1.heap.size (.slice (some ⟨w.heap.size,0,none⟩) 0 0) []):=(Z1.far hg1 hgw).wide (Nat.le_refl _) hg1.size (Nat.le_refl _);have HR1:Hid (Rd w1 g (P+1)):=hrd1;have HG1:Hid (w.grownBy w1 (some g)):=z1G (World.grownBy_alloc w _ _) hg1;have hmm:m<=40:=by omega
 have hmo:(m:Int)<=most:=by omega
 clear Z1 hr1 hrd1 hg1 hm1 hm2;go_wp2;go_loopw [7,8] (fun s i wr=> ∃ (j k:Nat) (zs:List It),j+k=m/\i = .int .i64 j/\Hid (zs.length<=k)/\Hid (q2Y (5*k) zs)/\Hid (SW wd.toNat zs)/\Hid (z1V wr w.heap.size wr.heap.size s zs)/\Hid (Rd wr g (P+1+9*k))/\Hid (w.grownBy wr (some g)))
  (fun _ i _=>(intOf i).toNat)
 case atStart=>exact ⟨m,0,[],by omega,rfl,by simp [Hid],fun p hp=>by simp at hp,sw_nil _,HZ1.out,HR1.out,HG1.out⟩
 case round=>
  obtain ⟨j,k,zs,hjk,rfl,HL,HGd,HS,HZ,HR,HG⟩:=hrel;clear HZ1 HR1 HG1;have hgs:=HG.out.size;by_cases hlt:0<j
  ·
   have hltI:(0:Int)<(j:Int):=by omega
   have hrd:=HR.out;go_wp2_with fail;refine (j4Z g _ wd _ h0 h7 (by omega) hrd).mono ?_;rintro e w2 ⟨v2,rfl,xs,hxl,hsm,O2,hrd2,hg2⟩;have Z2:=(HZ.out.far hg2 hgw).wide (Nat.le_refl _) hg2.size (Nat.le_refl _);have hG2:=z1G HG.out hg2;have hgs2:=hG2.size;have hxl7:xs.length<=7:=by omega
   have HXL:Hid (xs.length=wd.toNat):=hxl;clear hrd hxl;have hlit:Own (w2.alloc (.cells #[.int .i64 1,.int .i64 1,.int .i64 1,.int .i64 2,.int .i64 (-1),.int .i64 3,.int .i64 (-2)] 3)) w2.heap.size (w2.heap.size+1) (.slice (some ⟨w2.heap.size,0,none⟩) 7 7) [1,1,1,2,-1,3,-2]:=v1K w2 [1,1,1,2,-1,3,-2] (by decide);have hr3:Rd (w2.alloc (.cells #[.int .i64 1,.int .i64 1,.int .i64 1,.int .i64 2,.int .i64 (-1),.int .i64 3,.int .i64 (-2)] 3)) g (P+1+9*k+7):=hrd2.below (z1C _);have Z3:=(Z2.keep' (z1C (.cells #[.int .i64 1,.int .i64 1,.int .i64 1,.int .i64 2,.int .i64 (-1),.int .i64 3,.int .i64 (-2)] 3)));have O3:=O2.keep' (z1C (.cells #[.int .i64 1,.int .i64 1,.int .i64 1,.int .i64 2,.int .i64 (-1),.int .i64 3,.int .i64 (-2)] 3));have hG3:=x1F hG2 (.cells #[.int .i64 1,.int .i64 1,.int .i64 1,.int .i64 2,.int .i64 (-1),.int .i64 3,.int .i64 (-2)] 3);have hgw2:w.heap.size<=wr.heap.size:=hgs;clear Z2 O2 hrd2 hG2 hg2;go_wp2_with fail;refine (k1G g _ _ _ _ _ _ (by omega) hr3 hlit (by omega) (by decide) (by decide)).mono ?_;rintro e w4 ⟨z,hz,rfl,hrd4,hg4⟩;have hzb : -3<=z/\z<=3:=by simp at hz; omega
   have Z4:=Z3.far hg4 hgw;have O4:=O3.far hg4 (by omega);have hG4:=z1G hG3 hg4;have hlo4:w.heap.size<=w2.heap.size:=hgs2;have hzl:zs.length<=1099511627775:=by have:=HL.out; omega
   have hat:=HGd.out.at (by omega);clear Z3 O3 hr3 hlit hG3 hz hg4;go_wp2_with fail;refine (k1Q _ w.heap.size w2.heap.size zs _ xs z _ Z4 hlo4 O4.ints hzl (by omega) hat (by omega)).mono ?_;rintro e w5 ⟨v5,rfl,Z5,O5⟩;have HZ5:Hid (z1V w5 w.heap.size w5.heap.size v5 (putZ zs xs z)):=Z5;have HR5:Hid (Rd w5 g (P+1+9*(k+1))):=(hrd4.only O5 hgw).le (by omega);have HG5:Hid (w.grownBy w5 (some g)):=z3Q hG4 O5;have HL5:Hid ((putZ zs xs z).length<=k+1):=by have h1:=z3I xs z zs; have h2:=HL.out; show _<=_; omega
   have HD5:Hid (q2Y (5*((k+1:Nat):Int)) (putZ zs xs z)):=by
    have h1:=q4D (C:=5) HGd.out (by omega) (by omega) hxl7 hsm (show -5<=z/\z<=5 by omega);exact h1.up (by omega)
   clear Z4 O4 Z5 O5 hrd4 hG4 hat hsm;go_wp2;go_roundw
   case rel=>exact ⟨j - 1,k+1,putZ zs xs z,by omega,by rw [show ((j - 1:Nat):Int)=(j:Int) - 1 by omega],HL5.out,HD5.out,sw_put z HS.out HXL.out,HZ5.out,HR5.out,HG5.out⟩
   case measure=>simp [intOf]; omega
  ·
   obtain rfl:j=0:=by omega
   go_wp2;go_ret;refine ⟨_,rfl,zs,by have:=HL.out; omega,HGd.out.up (by omega),HS.out,HZ.out,HR.out.le (by omega),HG.out⟩
theorem k3F (g P:Nat) (wd most:Int) (w:World) (h0:0<=wd) (h7:wd<=7) (hm0:0<=most) (hm:most<=40) (hP:P<=1099511620000) (h:Rd w g P) :
  Calls Tryz.prog 97 #[.pointer (some ⟨g,0,none⟩),.int .i64 wd,.int .i64 most] w fun e w'=>
   ∃ v,e = .returned v/\∃ zs:List It,(zs.length:Int)<=most/\q2Y 200 zs/\SW wd.toNat zs/\z1V w' w.heap.size w'.heap.size v zs/\Rd w' g (P+400)/\w.grownBy w' (some g):=by
 have hgw:=h.lt;have Z1:z1V (w.alloc (.cells #[] 47)) w.heap.size (w.alloc (.cells #[] 47)).heap.size (.slice (some ⟨w.heap.size,0,none⟩) 0 0) []:=z1T w;have hr1:Rd (w.alloc (.cells #[] 47)) g P:=h.below (z1C _);clear h;go_enter Tryz.func97,Tryz.ntmps97;go_wp2_with fail;refine (z1L g P (most+1) _ (by omega) (by omega) (by omega) hr1).mono ?_;rintro e w1 ⟨m,hm1,hm2,rfl,hrd1,hg1⟩;obtain ⟨m,rfl⟩:=Int.eq_ofNat_of_zero_le hm1;have HZ1:Hid (z1V w1 w.heap.size w1.heap.size (.slice (some ⟨w.heap.size,0,none⟩) 0 0) []):=(Z1.far hg1 hgw).wide (Nat.le_refl _) hg1.size (Nat.le_refl _);have HR1:Hid (Rd w1 g (P+1)):=hrd1;have HG1:Hid (w.grownBy w1 (some g)):=z1G (World.grownBy_alloc w _ _) hg1;have hmm:m<=40:=by omega
 have hmo:(m:Int)<=most:=by omega
 clear Z1 hr1 hrd1 hg1 hm1 hm2;go_wp2;go_loopw [7,8] (fun s i wr=> ∃ (j k:Nat) (zs:List It),j+k=m/\i = .int .i64 j/\Hid (zs.length<=k)/\Hid (q2Y (5*k) zs)/\Hid (SW wd.toNat zs)/\Hid (z1V wr w.heap.size wr.heap.size s zs)/\Hid (Rd wr g (P+1+9*k))/\Hid (w.grownBy wr (some g)))
  (fun _ i _=>(intOf i).toNat)
 case atStart=>exact ⟨m,0,[],by omega,rfl,by simp [Hid],fun p hp=>by simp at hp,sw_nil _,HZ1.out,HR1.out,HG1.out⟩
 case round=>
  obtain ⟨j,k,zs,hjk,rfl,HL,HGd,HS,HZ,HR,HG⟩:=hrel;clear HZ1 HR1 HG1;have hgs:=HG.out.size;by_cases hlt:0<j
  ·
   have hltI:(0:Int)<(j:Int):=by omega
   have hrd:=HR.out;go_wp2_with fail;refine (j4Z g _ wd _ h0 h7 (by omega) hrd).mono ?_;rintro e w2 ⟨v2,rfl,xs,hxl,hsm,O2,hrd2,hg2⟩;have Z2:=(HZ.out.far hg2 hgw).wide (Nat.le_refl _) hg2.size (Nat.le_refl _);have hG2:=z1G HG.out hg2;have hgs2:=hG2.size;have hxl7:xs.length<=7:=by omega
   have HXL:Hid (xs.length=wd.toNat):=hxl;clear hrd hxl;have hlit:Own (w2.alloc (.cells #[.int .i64 1,.int .i64 1,.int .i64 1,.int .i64 2] 3)) w2.heap.size (w2.heap.size+1) (.slice (some ⟨w2.heap.size,0,none⟩) 4 4) [1,1,1,2]:=v1K w2 [1,1,1,2] (by decide);have hr3:Rd (w2.alloc (.cells #[.int .i64 1,.int .i64 1,.int .i64 1,.int .i64 2] 3)) g (P+1+9*k+7):=hrd2.below (z1C _);have Z3:=(Z2.keep' (z1C (.cells #[.int .i64 1,.int .i64 1,.int .i64 1,.int .i64 2] 3)));have O3:=O2.keep' (z1C (.cells #[.int .i64 1,.int .i64 1,.int .i64 1,.int .i64 2] 3));have hG3:=x1F hG2 (.cells #[.int .i64 1,.int .i64 1,.int .i64 1,.int .i64 2] 3);have hgw2:w.heap.size<=wr.heap.size:=hgs;clear Z2 O2 hrd2 hG2 hg2;go_wp2_with fail;refine (k1G g _ _ _ _ _ _ (by omega) hr3 hlit (by omega) (by decide) (by decide)).mono ?_;rintro e w4 ⟨z,hz,rfl,hrd4,hg4⟩;have hzb : -3<=z/\z<=3:=by simp at hz; omega
   have Z4:=Z3.far hg4 hgw;have O4:=O3.far hg4 (by omega);have hG4:=z1G hG3 hg4;have hlo4:w.heap.size<=w2.heap.size:=hgs2;have hzl:zs.length<=1099511627775:=by have:=HL.out; omega
   have hat:=HGd.out.at (by omega);clear Z3 O3 hr3 hlit hG3 hz hg4;go_wp2_with fail;refine (k1Q _ w.heap.size w2.heap.size zs _ xs z _ Z4 hlo4 O4.ints hzl (by omega) hat (by omega)).mono ?_;rintro e w5 ⟨v5,rfl,Z5,O5⟩;have HZ5:Hid (z1V w5 w.heap.size w5.heap.size v5 (putZ zs xs z)):=Z5;have HR5:Hid (Rd w5 g (P+1+9*(k+1))):=(hrd4.only O5 hgw).le (by omega);have HG5:Hid (w.grownBy w5 (some g)):=z3Q hG4 O5;have HL5:Hid ((putZ zs xs z).length<=k+1):=by have h1:=z3I xs z zs; have h2:=HL.out; show _<=_; omega
   have HD5:Hid (q2Y (5*((k+1:Nat):Int)) (putZ zs xs z)):=by
    have h1:=q4D (C:=5) HGd.out (by omega) (by omega) hxl7 hsm (show -5<=z/\z<=5 by omega);exact h1.up (by omega)
   clear Z4 O4 Z5 O5 hrd4 hG4 hat hsm;go_wp2;go_roundw
   case rel=>exact ⟨j - 1,k+1,putZ zs xs z,by omega,by rw [show ((j - 1:Nat):Int)=(j:Int) - 1 by omega],HL5.out,HD5.out,sw_put z HS.out HXL.out,HZ5.out,HR5.out,HG5.out⟩
   case measure=>simp [intOf]; omega
  ·
   obtain rfl:j=0:=by omega
   go_wp2;go_ret;refine ⟨_,rfl,zs,by have:=HL.out; omega,HGd.out.up (by omega),HS.out,HZ.out,HR.out.le (by omega),HG.out⟩
theorem v5A (g P:Nat) (w:World) (hP:P<=1099511610000) (h:Rd w g P) :
  Calls Tryz.prog 56 #[.pointer (some ⟨g,0,none⟩)] w fun e w'=>
   ∃ v,e = .returned v/\∃ zs:List It,x2N zs/\(q1G zs=true->q2J zs)/\k1F w' w.heap.size v zs/\Rd w' g (P+500)/\w.grownBy w' (some g):=by
 obtain ⟨i0,hi0,hz0,hz1,hz2⟩:=info_parts infoItem;have hgw:=h.lt;go_enter Tryz.func56,Tryz.ntmps56;go_wp2_with fail;refine (z1L g P 3 _ (by omega) (by omega) (by omega) h).mono ?_;rintro e w1 ⟨r0,hr0,hr3,rfl,hrd1,hg1⟩;clear h;have hs1:=hg1.size;go_wp2_with fail;refine (z4P g _ (1+r0) 6 _ (by omega) (by omega) (by omega) (by omega) (by omega) hrd1).mono ?_;rintro e w2 ⟨v2,rfl,zs,hzl,hgd,hsw,Z2',hrd2,hg2'⟩;obtain ⟨wm,hwm⟩:∃ wm,wm=(1+r0).toNat:=⟨_,rfl⟩;rw [<-hwm] at hsw;have HSW:Hid (SW wm zs):=hsw;clear hsw hwm;have Z2:=Z2'.wide hs1 (Nat.le_refl _) (Nat.le_refl _);have hg2:=z1G hg1 hg2';have hs2:=hg2.size;have HGD:Hid (q2Y 200 zs):=hgd;have HZL:Hid (zs.length<=6):=by show _<=_; omega
 clear hrd1 hg1 hg2' Z2' hgd hr0 hr3;by_cases hne:zs=[]
 ·
  subst hne;obtain ⟨a,cap,rfl⟩:=Z2.shape;have HD:Hid (k1F w2 w.heap.size (.slice a 0 cap) []):=Z2.drawnB;have HR:Hid (Rd w2 g (P+500)):=hrd2.le (by omega);clear Z2 hrd2;go_wp2;go_ret;exact ⟨_,rfl,[],⟨by simp,fun p hp=>by simp at hp⟩,fun _=>one_nil,HD.out,HR.out,hg2⟩
 ·
  obtain ⟨gz,cap,rfl,hgz1,hgz2,hcap⟩:∃ gz cap,v2 = .slice (some ⟨gz,0,none⟩) zs.length cap/\w.heap.size<=gz/\gz<w2.heap.size/\zs.length<=cap:=by
   obtain ⟨ps,he,hs,_⟩:=Z2;have hl:=x1X he;have hpos:0<zs.length:=List.length_pos_iff.2 hne;obtain ⟨g',cap,rfl,h1,h2,h3,_⟩:=hs.shape (by omega);exact ⟨g',cap,by rw [hl],h1,h2,by omega⟩
  obtain ⟨n,hn⟩:∃ n,n=zs.length:=⟨_,rfl⟩;have HN:Hid (n=zs.length):=hn;have hpos:0<n:=by rw [hn]; exact List.length_pos_iff.2 hne
  have hn6:n<=6:=by rw [hn]; exact HZL.out
  rw [<-hn] at Z2 hcap ⊢;clear hn hne hzl;have hn0:((n:Int)==0)=false:=by simp; omega
  go_wp2_with fail;refine (z1L g _ n _ (by omega) (by omega) (by omega) hrd2).mono ?_;rintro e w3 ⟨k,hk0,hkn,rfl,hrd3,hg3⟩;obtain ⟨k,rfl⟩:=Int.eq_ofNat_of_zero_le hk0;have hkn':k<n:=by omega
  have Z3:=Z2.far hg3 hgw;have hG3:=z1G hg2 hg3;have z23:=hg3.size;clear Z2 hrd2 hg2 hg3 hk0 hkn;go_wp2_with fail;refine (z1L g _ 40 _ (by omega) (by omega) (by omega) hrd3).mono ?_;rintro e w4 ⟨q,hq0,hq40,rfl,hrd4,hg4⟩;have Z4:=Z3.far hg4 hgw;have hG4:=z1G hG3 hg4;have z34:=hg4.size;have hs4:=hG4.size;clear Z3 hrd3 hG3 hg4;have hkz:k<zs.length:=by rw [<-HN.out]; exact hkn'
  by_cases hq0':q=0
  ·
   subst hq0';have hlit:Own (w4.alloc (.cells #[.int .i64 0,.int .i64 10000,.int .i64 10001,.int .i64 (-10000)] 3)) w4.heap.size (w4.heap.size+1) (.slice (some ⟨w4.heap.size,0,none⟩) 4 4) [0,10000,10001,-10000]:=v1K w4 [0,10000,10001,-10000] (by decide);have hr5:=hrd4.below (z1C (.cells #[.int .i64 0,.int .i64 10000,.int .i64 10001,.int .i64 (-10000)] 3));have Z5:=Z4.keep' (z1C (.cells #[.int .i64 0,.int .i64 10000,.int .i64 10001,.int .i64 (-10000)] 3));have hG5:=x1F hG4 (.cells #[.int .i64 0,.int .i64 10000,.int .i64 10001,.int .i64 (-10000)] 3);clear Z4 hrd4 hG4;go_wp2_with fail;refine (k1G g _ _ _ _ _ _ (by omega) hr5 hlit (by omega) (by decide) (by decide)).mono ?_;rintro e w6 ⟨z,hz,rfl,hrd6,hg6⟩;have hzb : -10001<=z/\z<=10001:=by simp at hz; omega
   have Z6:=Z5.far hg6 hgw;have hG6:=z1G hG5 hg6;clear Z5 hr5 hlit hG5 hz hg6;obtain ⟨Z7,hg7⟩:=Z6.putW hkz z;obtain ⟨u1,c1⟩:=Z6.cellAt1 hkz;have f1:=Z6.frozenAt (k*2+1);have HD:Hid (k1F (w6.setCell ⟨gz,k*2+1,none⟩ (.int .i64 z)) w.heap.size (.slice (some ⟨gz,0,none⟩) n cap) (zs.set k ((zs.getD k ([],0)).1,z))):=Z7.drawnB;have HR:Hid (Rd (w6.setCell ⟨gz,k*2+1,none⟩ (.int .i64 z)) g (P+500)):=(hrd6.grown hg7 (fun b e=>by simp at e; omega)).le (by omega);have HG:Hid (w.grownBy (w6.setCell ⟨gz,k*2+1,none⟩ (.int .i64 z)) (some g)):=x1T hG6 hg7 (fun i e=>by simp at e; omega);have HGZ:Hid (x2N (zs.set k ((zs.getD k ([],0)).1,z))):=by
    have h1:=HGD.out _ (x1O hkz);refine ⟨by rw [List.length_set]; have:=HZL.out; omega,q5X (HGD.out.up (by omega)) ⟨h1.1,h1.2.1,by show -1000000<=z; omega,by show z<=1000000; omega⟩⟩
   clear Z6 Z7 hg7 hrd6 hG6;go_wp2;go_ret;exact ⟨_,rfl,_,HGZ.out,fun _=>one_set HSW.out hkz z,HD.out,HR.out,HG.out⟩
  ·
   have hqf0:(q==0)=false:=by simp [hq0']
   by_cases hq1':q=1
   ·
    subst hq1';obtain ⟨l,HL,S4,R4,A4⟩:=Z4.opened;have hkl:k<l.length:=by rw [<-q1E,<-HL]; exact hkz
    have hA:Below w4.heap.size w4 (w4.alloc (.cells #[] 3)):=z1C _;have S5:=S4.keep' hA;have hkp:k<(prs l).length:=by rw [z1H]; exact hkl
    have s6:=S5.stored0 hkp (.slice (some ⟨w4.heap.size,0,none⟩) 0 0);have c0:=S5.cell0 hkp;have f0:=S5.frozenAt (k*2);have e1:(prs l).set k (Value.slice (some ⟨w4.heap.size,0,none⟩) 0 0,((prs l).getD k (vn,0)).2)=prs (l.set k (Value.slice (some ⟨w4.heap.size,0,none⟩) 0 0,([],(zs.getD k ([],0)).2))):=by
     rw [prs_set,HL];simp [prs,its,List.getD,hkl]
    have onew:Own (w4.alloc (.cells #[] 3)) w4.heap.size (w4.heap.size+1) (.slice (some ⟨w4.heap.size,0,none⟩) 0 0) []:=v1K w4 [] (by simp);have onew2:=onew.keptB s6.2 (.inr (by simp [Value.ownBlock]; omega));rw [e1] at s6;have HD:Hid (k1F ((w4.alloc (.cells #[] 3)).setCell ⟨gz,k*2,none⟩ (.slice (some ⟨w4.heap.size,0,none⟩) 0 0)) w.heap.size (.slice (some ⟨gz,0,none⟩) n cap) (zs.set k ([],(zs.getD k ([],0)).2))):=fun w'' hw''=>by
     have e2:zs.set k ([],(zs.getD k ([],0)).2)=its (l.set k (Value.slice (some ⟨w4.heap.size,0,none⟩) 0 0,([],(zs.getD k ([],0)).2))):=by rw [its_set,<-HL]
     rw [e2]
     refine (s6.1.only hw'' (.inr (Nat.le_refl _))).tailZ fun x hx=> ?_
     rcases List.mem_or_eq_of_mem_set hx with e | e
     ·
      have hrow:=(R4 x e).keep' hA;exact ((hrow.keptB s6.2 (j1G S5 hrow)).only hw'' (.inr (Nat.le_refl _))).ints
     ·
      rw [e]; exact (onew2.only hw'' (.inr (by omega))).ints
    have HR:Hid (Rd ((w4.alloc (.cells #[] 3)).setCell ⟨gz,k*2,none⟩ (.slice (some ⟨w4.heap.size,0,none⟩) 0 0)) g (P+500)):=((hrd4.below hA).grown s6.2 (fun b e=>by simp at e; omega)).le (by omega);have HG:Hid (w.grownBy ((w4.alloc (.cells #[] 3)).setCell ⟨gz,k*2,none⟩ (.slice (some ⟨w4.heap.size,0,none⟩) 0 0)) (some g)):=x1T (x1F hG4 _) s6.2 (fun i e=>by simp at e; omega);have HGZ:Hid (x2N (zs.set k ([],(zs.getD k ([],0)).2))):=by
     have h1:=(HGD.out _ (x1O hkz)).2.2;refine ⟨by rw [List.length_set]; have:=HZL.out; omega,q5X (HGD.out.up (by omega)) ⟨by simp,small_nil,by show -1000000<=(zs.getD k ([],0)).2; omega,by show (zs.getD k ([],0)).2<=1000000; omega⟩⟩
    clear Z4 S4 S5 R4 A4 s6 hrd4 hG4 onew onew2 e1 hA HL;go_wp2;go_ret;exact ⟨_,rfl,_,HGZ.out,none_set hkz _,HD.out,HR.out,HG.out⟩
   ·
    have hqf1:(q==1)=false:=by simp [hq1']
    by_cases hq2':q=2
    ·
     subst hq2';obtain ⟨l,HL,S4,R4,A4⟩:=Z4.opened;have hl0:0<l.length:=by rw [<-q1E,<-HL,<-HN.out]; exact hpos
     have hp0:0<(prs l).length:=by rw [z1H]; exact hl0
     have c0:=S4.cell0 hp0;have c1:=S4.cell1 hp0;have hin:z1E w4 l[0].1 l[0].2.1:=(R4 _ (List.getElem_mem hl0)).ints;have e0:(prs l).getD 0 (vn,0)=(l[0].1,l[0].2.2):=by simp [prs,List.getD,hl0]
     obtain ⟨xa,xn,xc,hxv⟩:=hin.shape;obtain ⟨y,HY⟩:∃ y:Int,Hid (y=(l[0]'hl0).2.2):=⟨(l[0]'hl0).2.2,(rfl:(l[0]'hl0).2.2=(l[0]'hl0).2.2)⟩;rw [e0] at c0 c1;simp only [hxv] at c0;rw [<-HY.out] at c1;simp only [Nat.zero_mul,Nat.zero_add] at c0 c1;have hlD:l.length=n:=by rw [<-q1E,<-HL,HN.out]
     obtain ⟨hspW,hprW,hfin⟩:=x1N (xv:=.slice xa xn xc) y S4 ⟨_,_,_,rfl⟩ hs4 (by omega);have hpl:(prs l).length=n:=by rw [z1H,hlD]
     go_wp2_with (at_builtin; refine z1K rfl _ _ 35 rfl w.heap.size 47 i0 Tryz.underlying35 hi0 hz0 hz1 hz2 (.slice (some ⟨gz,0,none⟩) n cap) (prs l) rfl hspW _ [(.slice xa xn xc,y)] rfl hprW (by rw [hpl]; simp; omega) (by simp; omega) ?_; intro v5 w5 hown5 hg5 _);obtain ⟨S5,B5⟩:=hfin v5 w5 l[0].2.1 hown5 hg5;have hgr5:w.grownBy w5 (some g):=x1T (x1F hG4 _) hg5 (fun i e=>(hspW.lt i e).1);have HD:Hid (k1F w5 w.heap.size v5 (its (l++[(.slice xa xn xc,(l[0].2.1,y))]))):=fun w'' hw''=>by
      refine (S5.only hw'' (.inr (Nat.le_refl _))).tailZ fun x hx=> ?_
      have keep:∀ x∈l,z1E w'' x.1 x.2.1:=fun x e=>by
       have hrow:=(R4 x e).keep' (z1C (.cells #[.slice xa xn xc,.int .i64 y] 47))
       have hsp:=S4.keep' (z1C (.cells #[.slice xa xn xc,.int .i64 y] 47))
       exact ((hrow.keptB hg5 (j1G hsp hrow)).only hw'' (.inr (Nat.le_refl _))).ints
      rcases List.mem_append.1 hx with e | e
      ·
       exact keep x e
      ·
       simp at e;subst e;have:=keep _ (List.getElem_mem hl0);rwa [hxv] at this
     have HR:Hid (Rd w5 g (P+500)):=((hrd4.below (z1C _)).grown hg5 (fun b e=>by have:=(hspW.lt b e).1; omega)).le (by omega);have HG:Hid (w.grownBy w5 (some g)):=hgr5;have HGZ:Hid (x2N (its (l++[(.slice xa xn xc,(l[0].2.1,y))]))):=by
      refine ⟨by rw [q1E]; simp; omega,fun p hp=> ?_⟩;rw [x1V,<-HL] at hp;rcases List.mem_append.1 hp with e | e
      ·
       exact HGD.out.up (by omega) p e
      ·
       simp [its] at e;subst e;have:=HGD.out.up (C:=1000000) (by omega) l[0].2 (by rw [HL]; exact List.mem_map.2 ⟨_,List.getElem_mem hl0,rfl⟩);rw [HY.out]; exact this
     have HONE:Hid (q2J (its (l++[(.slice xa xn xc,(l[0].2.1,y))]))):=by
      refine ⟨wm,fun p hp=> ?_⟩;rw [x1V,<-HL] at hp;rcases List.mem_append.1 hp with e | e
      ·
       exact HSW.out.2 p e
      ·
       simp [its] at e;subst e;exact HSW.out.2 l[0].2 (by rw [HL]; exact List.mem_map.2 ⟨_,List.getElem_mem hl0,rfl⟩)
     clear S5 B5 hgr5 hspW hprW hfin hown5 hg5 Z4 S4 R4 A4 hrd4 hG4 HL;go_wp2;go_ret;exact ⟨_,rfl,_,HGZ.out,fun _=>HONE.out,HD.out,HR.out,HG.out⟩
    ·
     have hqf2:(q==2)=false:=by simp [hq2']
     by_cases hq3':q=3
     ·
      subst hq3';have HZ4:Hid (z1V w4 w.heap.size w4.heap.size (.slice (some ⟨gz,0,none⟩) n cap) zs):=Z4.wide (Nat.le_refl _) (by have:=Z4.hi_le; omega) (Nat.le_refl _);have HR4:Hid (Rd w4 g (P+450)):=hrd4.le (by omega);have HG4:Hid (w.grownBy w4 (some g)):=hG4;clear Z4 hrd4 hG4 hkz hkn' hn0 hq0 hq40 hqf0 hqf1 hqf2 hq0' hq1' hq2';go_wp2;go_loopw [3,5] (fun s i wr=> ∃ (j:Nat) (ys:List It),j<=101/\i = .int .i64 j/\Hid (ys.length<=6+j)/\Hid (q2Y (200+2*j) ys)/\Hid (Q3 wm j ys)/\Hid (z1V wr w.heap.size wr.heap.size s ys)/\Hid (Rd wr g (P+450))/\Hid (w.grownBy wr (some g)))
       (fun _ i _=>101 - (intOf i).toNat)
      case atStart=>exact ⟨0,zs,by omega,rfl,by have:=HZL.out; show _<=_; omega,HGD.out.up (by omega),q3_start HSW.out,HZ4.out,HR4.out,HG4.out⟩
      case round=>
       obtain ⟨j,ys,hj,rfl,HL,HGd,HQ,HZ,HR,HG⟩:=hrel;clear HZ4 HR4 HG4;by_cases hlt:j<101
       ·
        have hlit:Own (wr.alloc (.cells #[.int .i64 (10+(j:Int))] 3)) wr.heap.size (wr.heap.size+1) (.slice (some ⟨wr.heap.size,0,none⟩) 1 1) [10+(j:Int)]:=v1K wr [10+(j:Int)] (by simp);have Z5:=HZ.out.keep' (z1C (.cells #[.int .i64 (10+(j:Int))] 3));have hr5:=HR.out.below (z1C (.cells #[.int .i64 (10+(j:Int))] 3));have hG5:=x1F HG.out (.cells #[.int .i64 (10+(j:Int))] 3);have hlo:w.heap.size<=wr.heap.size:=HG.out.size;have hat:=HGd.out.at (by omega);have hyl:ys.length<=1099511627775:=by have:=HL.out; omega
        have hin:=hlit.ints;clear hlit;go_wp2_with fail;refine (k1Q _ w.heap.size wr.heap.size ys _ [10+(j:Int)] 1 _ Z5 hlo hin hyl (by simp) hat (by omega)).mono ?_;rintro e w5 ⟨v5,rfl,Z6,O6⟩;have HZ6:Hid (z1V w5 w.heap.size w5.heap.size v5 (putZ ys [10+(j:Int)] 1)):=Z6;have HR6:Hid (Rd w5 g (P+450)):=hr5.only O6 hgw;have HG6:Hid (w.grownBy w5 (some g)):=z3Q hG5 O6;have HL6:Hid ((putZ ys [10+(j:Int)] 1).length<=6+(j+1)):=by have h1:=z3I [10+(j:Int)] 1 ys; have h2:=HL.out; show _<=_; omega
        have HD6:Hid (q2Y (200+2*((j+1:Nat):Int)) (putZ ys [10+(j:Int)] 1)):=by
         have h1:=q4D (r:=[10+(j:Int)]) (y:=1) (C:=2) HGd.out (by omega) (by omega) (by simp) (k5X (x:=10+(j:Int)) (by omega)) (show -2<=(1:Int)/\(1:Int)<=2 by omega);exact h1.up (by omega)
        clear Z5 Z6 O6 hr5 hG5 hat hin;go_wp2;go_roundw
        case rel=>exact ⟨j+1,_,by omega,by go_num,HL6.out,HD6.out,q3_next HQ.out,HZ6.out,HR6.out,HG6.out⟩
        case measure=>simp [intOf]; omega
       ·
        obtain rfl:j=101:=by omega
        go_wp2;go_ret;exact ⟨_,rfl,ys,⟨by have:=HL.out; omega,HGd.out.up (by omega)⟩,q3_end HQ.out,HZ.out.drawnB,HR.out.le (by omega),HG.out⟩
     ·
      have hqf3:(q==3)=false:=by simp [hq3']
      have HD:Hid (k1F w4 w.heap.size (.slice (some ⟨gz,0,none⟩) n cap) zs):=Z4.drawnB;have HR:Hid (Rd w4 g (P+500)):=hrd4.le (by omega);have HG:Hid (w.grownBy w4 (some g)):=hG4;have HGZ:Hid (x2N zs):=⟨by have:=HZL.out; omega,HGD.out.up (by omega)⟩;clear Z4 hrd4 hG4 hq0' hq1' hq2' hq3';go_wp2;go_ret;exact ⟨_,rfl,_,HGZ.out,fun _=>HSW.out.one,HD.out,HR.out,HG.out⟩
theorem z5X {w:World} {lo hi:Nat} {v:Value} {zs:List It} (h:z1V w lo hi v zs):∃ a n c,v = .slice a n c:=by
 obtain ⟨_,a,c,rfl,_⟩:=id h.items;exact ⟨a,_,c,rfl⟩
theorem shapeD {w:World} {B:Nat} {v:Value} {zs:List It} (h:k1F w B v zs):∃ a n c,v = .slice a n c:=by
 obtain ⟨_,a,c,rfl,_⟩:=id h.now.items;exact ⟨a,_,c,rfl⟩
theorem zss_two {w:World} {tb:Nat} {va vb:Value} {a b:List It} (h:w.heap[tb]? = some (.cells #[va,vb] 35)) (ha:q1Y w va a) (hb:q1Y w vb b):Kd.ZssAt w (.slice (some ⟨tb,0,none⟩) 2 2) [a,b]:=by
 have hl:=(Array.getElem?_eq_some_iff.1 h).1;refine ⟨_,2,rfl,fun j hj=> ?_⟩;match j,hj with
 | 0,_=>exact ⟨tb,0,va,rfl,hl,Kd.cell_at h rfl,ha⟩
 | 1,_=>exact ⟨tb,0,vb,rfl,hl,Kd.cell_at h rfl,hb⟩
theorem k2A {W:World} {B tb:Nat} {va vb:Value} {a b:List It} (h:W.heap[tb]? = some (.cells #[va,vb] 35)) (hB:B<=tb) (ha:k1F W B va a) (hb:k1F W B vb b):∀ Y,Only 0 B W Y->Kd.ZssAt Y (.slice (some ⟨tb,0,none⟩) 2 2) [a,b]:=fun Y hY=>
 zss_two ((hY.block tb (Array.getElem?_eq_some_iff.1 h).1 (.inr hB)).trans h) (ha Y hY) (hb Y hY)
theorem q4C {zs:List It} {m:Int} (h:(zs.length:Int)<=m) (hm:m<=40) (hg:q2Y 200 zs):x2N zs:=⟨by omega,hg.up (by omega)⟩
theorem j4X (g P:Nat) (w:World) (hP:P<=1099511600000) (h:Rd w g P) :
  Calls Tryz.prog 54 #[.pointer (some ⟨g,0,none⟩)] w fun e w'=>
   ∃ (tb:Nat) (va vb:Value) (a b:List It),e = .returned (.slice (some ⟨tb,0,none⟩) 2 2)/\w.heap.size<=tb/\w'.heap[tb]? = some (.cells #[va,vb] 35)/\z1V w' w.heap.size tb va a/\z1V w' w.heap.size tb vb b/\x2N a/\x2N b/\SW 2 a/\SW 2 b/\Rd w' g (P+800)/\w.grownBy w' (some g):=by
 have hgw:=h.lt;go_enter Tryz.func54,Tryz.ntmps54;go_wp2_with fail;refine (k3F g P 2 7 _ (by omega) (by omega) (by omega) (by omega) (by omega) h).mono ?_;rintro e w1 ⟨va,rfl,a,hal,hga,hsa,Oa,hr1,hg1⟩;obtain ⟨xa,xn,xc,rfl⟩:=z5X Oa;clear h;go_wp2_with fail;refine (k3F g _ 2 6 _ (by omega) (by omega) (by omega) (by omega) (by omega) hr1).mono ?_;rintro e w2 ⟨vb,rfl,b,hbl,hgb,hsb,Ob,hr2,hg2⟩;obtain ⟨ya,yn,yc,rfl⟩:=z5X Ob;have Oa2:=Oa.far hg2 hgw;have hs1:=hg1.size;have hs2:=hg2.size;have HA:=Kd.hidden ((Oa2.wide (Nat.le_refl _) hs2 (Nat.le_refl _)).keep' (z1C (.cells #[.slice xa xn xc,.slice ya yn yc] 35)));have HB:=Kd.hidden ((Ob.wide hs1 (Nat.le_refl _) (Nat.le_refl _)).keep' (z1C (.cells #[.slice xa xn xc,.slice ya yn yc] 35)));have HR:=Kd.hidden ((hr2.le (by omega:P+400+400<=P+800)).below (z1C (.cells #[.slice xa xn xc,.slice ya yn yc] 35)));have HG:=Kd.hidden (x1F (z1G hg1 hg2) (.cells #[.slice xa xn xc,.slice ya yn yc] 35));have HS:=Kd.hidden (And.intro hsa hsb);have HGZ:=Kd.hidden (And.intro (q4C hal (by omega) hga) (q4C hbl (by omega) hgb));clear Oa Oa2 Ob hr1 hr2 hg1 hg2 hsa hsb hga hgb;go_wp2;go_ret;exact ⟨_,_,_,a,b,rfl,by omega,Kd.alloc_at _ _,HA.out,HB.out,HGZ.out.1,HGZ.out.2,HS.out.1,HS.out.2,HR.out,HG.out⟩
theorem v4R {w:World} {tb j:Nat} {va vb u:Value} (h:w.heap[tb]? = some (.cells #[va,vb] 35)):(w.setCell ⟨tb,j,none⟩ u).heap[tb]? = some (.cells (#[va,vb].setIfInBounds j u) 35):=heap_setCell_same w tb j _ _ u h
theorem only_set (w:World) (b o:Nat) (v:Value):Only b (b+1) w (w.setCell ⟨b,o,none⟩ v):=Only.of_grown (j1O w b o v) (fun k e=>by simp at e; omega)
theorem z1V.past {w:World} {lo hi b o:Nat} {v u:Value} {zs:List It} (h:z1V w lo hi v zs) (hb:hi<=b\/b<lo):z1V (w.setCell ⟨b,o,none⟩ u) lo hi v zs:=h.only (only_set w b o u) (by omega)
theorem j2P (g P:Nat) (w:World) (hP:P<=1099511500000) (h:Rd w g P) :
  Calls Tryz.prog 20 #[.pointer (some ⟨g,0,none⟩)] w fun e w'=>
   ∃ (tb:Nat) (a b:List It),e = .returned (.slice (some ⟨tb,0,none⟩) 2 2)/\(∀ Y,Only 0 w.heap.size w' Y->Kd.ZssAt Y (.slice (some ⟨tb,0,none⟩) 2 2) [a,b])/\x2N a/\x2N b/\(q1G a=true->q2J a)/\(∀ p∈b,p.1.length=2)/\Rd w' g (P+2000)/\w.grownBy w' (some g):=by
 have hgw:=h.lt;go_enter Tryz.func20,Tryz.ntmps20;go_wp2_with fail;refine (j4X g P _ (by omega) h).mono ?_;rintro e w1 ⟨tb,va,vb,a,b,rfl,htb,hc1,Oa,Ob,hga,hgb,hsa,hsb,hr1,hg1⟩;clear h;go_wp2_with fail;refine (z1L g _ 8 _ (by omega) (by omega) (by omega) hr1).mono ?_;rintro e w2 ⟨q,hq0,hq8,rfl,hr2,hg2⟩;have Oa2:=Oa.far hg2 hgw;have Ob2:=Ob.far hg2 hgw;have hc2:=Kd.kept_blk hc1 hg2 (by omega);have HG2:=Kd.hidden (z1G hg1 hg2);have HGA:=Kd.hidden hga;have HGB:=Kd.hidden hgb;have HSA:=Kd.hidden hsa;have HSB:=Kd.hidden hsb;have htl:tb<w2.heap.size:=(Array.getElem?_eq_some_iff.1 hc2).1;have hw2:w.heap.size<=w2.heap.size:=HG2.out.size;clear Oa Ob hc1 hr1 hg1 hg2 hga hgb hsa hsb;by_cases h0:q=0
 ·
  subst h0;go_wp2_with fail;refine (z4P g _ 2 6 _ (by omega) (by omega) (by omega) (by omega) (by omega) hr2).mono ?_;rintro e w3 ⟨vz,rfl,z,hzl,hgz,hsz,Oz,hr3,hg3⟩;obtain ⟨xa,xn,xc,rfl⟩:=z5X Oz;have hc3:=Kd.kept_blk hc2 hg3 (by omega);have HT:=Kd.hidden (k2A (v4R (j:=0) (u:=.slice xa xn xc) hc3) htb ((Oz.past (.inr htl)).drawnB.low hw2) (((Ob2.far hg3 hgw).past (.inl (Nat.le_refl _))).drawnB));have HR:=Kd.hidden ((hr3.grown (j1O w3 tb 0 (.slice xa xn xc)) (fun k e=>by simp at e; omega)).le (by omega:P+800+1+400<=P+2000));have HG:=Kd.hidden (x1T (z1G HG2.out hg3) (j1O w3 tb 0 (.slice xa xn xc)) (fun k e=>by simp at e; omega));have HGZ:=Kd.hidden (q4C hzl (by omega) hgz);have HSZ:=Kd.hidden hsz;have g0:=Kd.cell_at (j:=0) hc3 rfl;have f0:w3.frozen? ⟨tb,0,none⟩=false:=by simp [World.frozen?,hc3]
  clear Oz Oa2 Ob2 hc2 hr2 hr3 hg3 hsz hgz hc3;go_wp2;go_ret;exact ⟨tb,z,b,rfl,HT.out,HGZ.out,HGB.out,fun _=>HSZ.out.one,HSB.out.2,HR.out,HG.out⟩
 have h0f:(q==0)=false:=by simp [h0]
 by_cases h1:q=1
 ·
  subst h1;go_wp2_with fail;refine (z4P g _ 2 6 _ (by omega) (by omega) (by omega) (by omega) (by omega) hr2).mono ?_;rintro e w3 ⟨vz,rfl,z,hzl,hgz,hsz,Oz,hr3,hg3⟩;obtain ⟨xa,xn,xc,rfl⟩:=z5X Oz;have hc3:=Kd.kept_blk hc2 hg3 (by omega);have HT:=Kd.hidden (k2A (v4R (j:=1) (u:=.slice xa xn xc) hc3) htb (((Oa2.far hg3 hgw).past (.inl (Nat.le_refl _))).drawnB) ((Oz.past (.inr htl)).drawnB.low hw2));have HR:=Kd.hidden ((hr3.grown (j1O w3 tb 1 (.slice xa xn xc)) (fun k e=>by simp at e; omega)).le (by omega:P+800+1+400<=P+2000));have HG:=Kd.hidden (x1T (z1G HG2.out hg3) (j1O w3 tb 1 (.slice xa xn xc)) (fun k e=>by simp at e; omega));have HGZ:=Kd.hidden (q4C hzl (by omega) hgz);have HSZ:=Kd.hidden hsz;have g0:=Kd.cell_at (j:=1) hc3 rfl;have f0:w3.frozen? ⟨tb,1,none⟩=false:=by simp [World.frozen?,hc3]
  clear Oz Oa2 Ob2 hc2 hr2 hr3 hg3 hsz hgz hc3;go_wp2;go_ret;exact ⟨tb,a,z,rfl,HT.out,HGA.out,HGZ.out,fun _=>HSA.out.one,HSZ.out.2,HR.out,HG.out⟩
 have h1f:(q==1)=false:=by simp [h1]
 by_cases h2:q=2
 ·
  subst h2;go_wp2_with fail;refine (z1L g _ 4 _ (by omega) (by omega) (by omega) hr2).mono ?_;rintro e w3 ⟨q4,hq40,hq44,rfl,hr3,hg3⟩;have Oa3:=Oa2.far hg3 hgw;have Ob3:=Ob2.far hg3 hgw;have hc3:=Kd.kept_blk hc2 hg3 (by omega);have HG3:=Kd.hidden (z1G HG2.out hg3);have htl3:tb<w3.heap.size:=(Array.getElem?_eq_some_iff.1 hc3).1;have hw3:w.heap.size<=w3.heap.size:=HG3.out.size;clear Oa2 Ob2 hc2 hr2 hg3;by_cases h4:q4=0
  ·
   subst h4;go_wp2_with fail;refine (v5A g _ _ (by omega) hr3).mono ?_;rintro e w4 ⟨vz,rfl,z,hgz,hone,Dz,hr4,hg4⟩;obtain ⟨xa,xn,xc,rfl⟩:=shapeD Dz;have hc4:=Kd.kept_blk hc3 hg4 (by omega);have HT:=Kd.hidden (k2A (v4R (j:=0) (u:=.slice xa xn xc) hc4) htb ((Dz.only (z4L (j1O w4 tb 0 (.slice xa xn xc)) (fun k e=>by simp at e; omega))).low hw3) (((Ob3.far hg4 hgw).past (.inl (Nat.le_refl _))).drawnB));have HR:=Kd.hidden ((hr4.grown (j1O w4 tb 0 (.slice xa xn xc)) (fun k e=>by simp at e; omega)).le (by omega:P+800+1+1+500<=P+2000));have HG:=Kd.hidden (x1T (z1G HG3.out hg4) (j1O w4 tb 0 (.slice xa xn xc)) (fun k e=>by simp at e; omega));have HGZ:=Kd.hidden hgz;have HON:=Kd.hidden hone;have g0:=Kd.cell_at (j:=0) hc4 rfl;have f0:w4.frozen? ⟨tb,0,none⟩=false:=by simp [World.frozen?,hc4]
   clear Dz Oa3 Ob3 hc3 hr3 hr4 hg4 hone hgz hc4;go_wp2;go_ret;exact ⟨tb,z,b,rfl,HT.out,HGZ.out,HGB.out,HON.out,HSB.out.2,HR.out,HG.out⟩
  ·
   have h4f:(q4==0)=false:=by simp [h4]
   have HT:=Kd.hidden (k2A hc3 htb Oa3.drawnB Ob3.drawnB);have HR:=Kd.hidden (hr3.le (by omega:P+800+1+1<=P+2000));clear Oa3 Ob3 hc3 hr3;go_wp2;go_ret;exact ⟨tb,a,b,rfl,HT.out,HGA.out,HGB.out,fun _=>HSA.out.one,HSB.out.2,HR.out,HG3.out⟩
 ·
  have h2f:(q==2)=false:=by simp [h2]
  have HT:=Kd.hidden (k2A hc2 htb Oa2.drawnB Ob2.drawnB);have HR:=Kd.hidden (hr2.le (by omega:P+800+1<=P+2000));clear Oa2 Ob2 hc2 hr2;go_wp2;go_ret;exact ⟨tb,a,b,rfl,HT.out,HGA.out,HGB.out,fun _=>HSA.out.one,HSB.out.2,HR.out,HG2.out⟩
end Go.Proofs.YtmjaepdplbgohaaGreatDoor
