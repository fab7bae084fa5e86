/- Part of the proof of laws.FnMean: SortShelf, GatherSort, Gather, MapOf, Joined, SpecJoin, JoinOf. -/
import Derived.Shelf.SlSortCmp.WholeK
import Derived.Ground.SlsfProg
import Derived.Test.YtmjaepdplbgohaaGreatDoorProg
import Derived.Test.YtmjaepdplbgohaaGreatDoorPkI
import Derived.Shelf.SlSortCmp.NoneTotal
import Derived.Test.YtmjaepdplbgohaaGreatDoorPkA
import Derived.Test.YtmjaepdplbgohaaGreatDoorPkF
import Derived.Deep.RegionHeld
import Derived.Test.YtmjaepdplbgohaaGreatDoorPkB
import Derived.Carry
set_option maxRecDepth 100000
set_option maxHeartbeats 16000000
set_option linter.unusedVariables false
set_option linter.unusedSimpArgs false
namespace Go.Proofs
open Go.Shelf
def Tryz.sortItems_ren:Go.Shelf.Ren:=⟨fun | 6=>41 | 15=>85 | 14=>84 | 28=>138 | 29=>139 | 20=>130 | 21=>131 | 22=>132 | 23=>133 | 24=>134 | 25=>135 | 26=>136 | 27=>137 | 46=>157 | 47=>158 | 48=>159 | 49=>160 | 50=>161 | 57=>167 | n=>n,fun | 22=>35 | 24=>47 | 25=>80 | 3=>3 | 39=>122 | 0=>0 | 53=>182 | 55=>184 | 4=>4 | 46=>176 | 45=>175 | 50=>104 | 5=>5 | 9=>9 | 66=>216 | 70=>220 | 76=>233 | 77=>234 | n=>n,fun | n=>n⟩
theorem Tryz.sortItems:Go.Proofs.SlLaysF0.n6 Tryz.prog Tryz.sortItems_ren:={
  mixed:=by kernel_rfl
  f6:=⟨Tryz.f41.name,by decide,Tryz.func41.trans (congrArg some (by kernel_rfl))⟩
  f14:=⟨Tryz.f84.name,by decide,Tryz.func84.trans (congrArg some (by kernel_rfl))⟩
  f15:=Tryz.func85.trans (congrArg some (by kernel_rfl))
  f20:=⟨Tryz.f130.name,by decide,Tryz.func130.trans (congrArg some (by kernel_rfl))⟩
  f21:=⟨Tryz.f131.name,by decide,Tryz.func131.trans (congrArg some (by kernel_rfl))⟩
  f22:=⟨Tryz.f132.name,by decide,Tryz.func132.trans (congrArg some (by kernel_rfl))⟩
  f23:=⟨Tryz.f133.name,by decide,Tryz.func133.trans (congrArg some (by kernel_rfl))⟩
  f24:=⟨Tryz.f134.name,by decide,Tryz.func134.trans (congrArg some (by kernel_rfl))⟩
  f25:=⟨Tryz.f135.name,by decide,Tryz.func135.trans (congrArg some (by kernel_rfl))⟩
  f26:=⟨Tryz.f136.name,by decide,Tryz.func136.trans (congrArg some (by kernel_rfl))⟩
  f27:=⟨Tryz.f137.name,by decide,Tryz.func137.trans (congrArg some (by kernel_rfl))⟩
  f28:=Tryz.func138.trans (congrArg some (by kernel_rfl))
  f29:=Tryz.func139.trans (congrArg some (by kernel_rfl))
  f46:=⟨Tryz.f157.name,by decide,Tryz.func157.trans (congrArg some (by kernel_rfl))⟩
  f47:=Tryz.func158.trans (congrArg some (by kernel_rfl))
  f48:=Tryz.func159.trans (congrArg some (by kernel_rfl))
  f49:=⟨Tryz.f160.name,by decide,Tryz.func160.trans (congrArg some (by kernel_rfl))⟩
  f50:=⟨Tryz.f161.name,by decide,Tryz.func161.trans (congrArg some (by kernel_rfl))⟩
  f57:=⟨Tryz.f167.name,by decide,Tryz.func167.trans (congrArg some (by kernel_rfl))⟩
  t0:=Tryz.underlying0
  a0:=Tryz.isAgg0
  z0:=Tryz.sizeOf0
  v0:=Tryz.zeroValue0
  t3:=Tryz.underlying3
  a3:=Tryz.isAgg3
  z3:=Tryz.sizeOf3
  v3:=Tryz.zeroValue3
  t4:=Tryz.underlying4
  a4:=Tryz.isAgg4
  z4:=Tryz.sizeOf4
  v4:=Tryz.zeroValue4
  t5:=Tryz.underlying5
  a5:=Tryz.isAgg5
  z5:=Tryz.sizeOf5
  v5:=Tryz.zeroValue5
  t9:=Tryz.underlying9
  a9:=Tryz.isAgg9
  z9:=Tryz.sizeOf9
  v9:=Tryz.zeroValue9
  t22:=Tryz.underlying35
  a22:=Tryz.isAgg35
  z22:=Tryz.sizeOf35
  v22:=Tryz.zeroValue35
  t25:=Tryz.underlying80
  a25:=Tryz.isAgg80
  z25:=Tryz.sizeOf80
  v25:=Tryz.zeroValue80
  t39:=Tryz.underlying122
  a39:=Tryz.isAgg122
  z39:=Tryz.sizeOf122
  v39:=Tryz.zeroValue122
  t45:=Tryz.underlying175
  a45:=Tryz.isAgg175
  z45:=Tryz.sizeOf175
  v45:=Tryz.zeroValue175
  t46:=Tryz.underlying176
  a46:=Tryz.isAgg176
  z46:=Tryz.sizeOf176
  v46:=Tryz.zeroValue176
  t50:=Tryz.underlying104
  a50:=Tryz.isAgg104
  z50:=Tryz.sizeOf104
  v50:=Tryz.zeroValue104
  t53:=Tryz.underlying182
  a53:=Tryz.isAgg182
  z53:=Tryz.sizeOf182
  v53:=Tryz.zeroValue182
  t55:=Tryz.underlying184
  a55:=Tryz.isAgg184
  z55:=Tryz.sizeOf184
  v55:=Tryz.zeroValue184
  t66:=Tryz.underlying216
  a66:=Tryz.isAgg216
  z66:=Tryz.sizeOf216
  v66:=Tryz.zeroValue216
  t70:=Tryz.underlying220
  a70:=Tryz.isAgg220
  z70:=Tryz.sizeOf220
  v70:=Tryz.zeroValue220
  t76:=Tryz.underlying233
  a76:=Tryz.isAgg233
  z76:=Tryz.sizeOf233
  v76:=Tryz.zeroValue233
  t77:=Tryz.underlying234
  a77:=Tryz.isAgg234
  z77:=Tryz.sizeOf234
  v77:=Tryz.zeroValue234 }
end Go.Proofs
namespace Go.Proofs.YtmjaepdplbgohaaGreatDoor
open Go.RowKit Go.Shelf Go.Lib Go.Sort
theorem v3R (a:Option Addr) (n cap:Nat) (y:Int) (xs:List Int) (a2:Option Addr) (n2 cap2:Nat) (y2:Int) (xs2:List Int) (w:World) (h:z1E w (.slice a n cap) xs) (h2:z1E w (.slice a2 n2 cap2) xs2) :
  Calls Tryz.prog 42 #[.agg #[.slice a n cap,.int .i64 y],.agg #[.slice a2 n2 cap2,.int .i64 y2]] w fun e w'=>e = .returned (.int .i64 (ordL xs xs2))/\∃ q os',w'=grow (w.drewN q) os':=by
 have ha:=(h.alloc (.cells #[.slice a n cap,.int .i64 y] 47)).alloc (.cells #[.slice a2 n2 cap2,.int .i64 y2] 47);have ha2:=(h2.alloc (.cells #[.slice a n cap,.int .i64 y] 47)).alloc (.cells #[.slice a2 n2 cap2,.int .i64 y2] 47);clear h h2;go_enter Tryz.func42,Tryz.ntmps42;go_wp2_with fail;refine (z2D _ _ xs xs2 _ ha ha2).mono ?_;rintro e w1 ⟨rfl,q,hq⟩;have HK:Hid (∃ q os',w1=grow (w.drewN q) os'):=⟨q,_,by rw [hq,alloc_eq_grow,alloc_eq_grow,grow_grow]; rfl⟩;clear ha ha2 hq;go_wp2;go_ret;exact ⟨rfl,HK.out⟩
abbrev RwIn (w:World) (lo hi:Nat):Type:={ x:Rw // Own w lo hi x.1 x.2.1 }
theorem own_nil {w:World} {lo hi:Nat} (h:hi<=w.heap.size):Own w lo hi vn []:=⟨⟨rfl,.inl ⟨rfl,rfl⟩⟩,fun k hk=>by simp [vn,Value.ownBlock] at hk,by simp,h⟩
def x4Q {w:World} {lo hi:Nat} (x:RwIn w lo hi):List Value:=[x.1.1,.int .i64 x.1.2.2]
def cfR {w:World} {lo hi:Nat} (x y:RwIn w lo hi):Int:=ordL x.1.2.1 y.1.2.1
theorem ltR {w:World} {lo hi:Nat} (x y:RwIn w lo hi):ltOf cfR x y=decide (ordL x.1.2.1 y.1.2.1 = -1):=by
 unfold ltOf cfR;rcases ordL_cases x.1.2.1 y.1.2.1 with h | h | h
 ·
  rw [h.1]; rfl
 ·
  rw [h.1]; rfl
 ·
  have:=h.1;rw [this]; rfl
theorem q5J {a b:List Int} (h:¬ ordL a b = -1):a=b\/ordL b a = -1:=by
 by_cases e:a=b
 ·
  exact .inl e
 ·
  exact .inr (z2N h e)
theorem swoR {w:World} {lo hi:Nat}:SWO (ltOf (cfR (w:=w) (lo:=lo) (hi:=hi))):=by
 refine ⟨fun x=> ?_,fun x y z h1 h2=> ?_,fun x y z h1 h2=> ?_⟩
 ·
  rw [ltR,v1Z]; rfl
 ·
  rw [ltR,decide_eq_true_eq] at *;exact ordL_trans _ _ _ h1 h2
 ·
  rw [ltR,decide_eq_false_iff_not] at *;intro hc;rcases q5J h1 with e | e
  ·
   rw [e] at hc; exact h2 hc
  ·
   rcases q5J h2 with e2 | e2
   ·
    rw [<-e2] at hc; exact h1 hc
   ·
    have:=ordL_trans _ _ _ e2 e;have h3:=ordL_trans _ _ _ hc this;rw [v1Z] at h3;omega
theorem v2P {α:Type} [Inhabited α] (enc:α->List Value) (k:Nat) (w:World) (g off m:Nat) (d:Array α) (os:Array Obj):w.grownBy (sortWorldK enc k w g off m d os) (some g):=by
 refine ⟨rfl,rfl,rfl,?_,fun j hj hne=> ?_⟩
 ·
  show w.heap.size<=((w.heap.modify g _)++os).size;simp
 ·
  show ((w.heap.modify g _)++os)[j]? = w.heap[j]?;rw [Array.getElem?_append_left (by simpa using hj),Array.getElem?_modify,if_neg (fun e=>hne (by rw [e]))]
theorem v4Q {α:Type} [Inhabited α] (enc:α->List Value) (k:Nat) {w:World} {g off m:Nat} (d:Array α) (os:Array Obj) {cur:Array Value} {e:TypeId} (h:w.heap[g]? = some (.cells cur e (0,0))) :
  (sortWorldK enc k w g off m d os).heap[g]? = some (.cells (putCells id off (flatK enc k d) cur) e (0,0)):=by
 have hg:=(Array.getElem?_eq_some_iff.1 h).1;show ((w.heap.modify g _)++os)[g]? = _;rw [Array.getElem?_append_left (by simpa using hg),Array.getElem?_modify,if_pos rfl,h];rfl
theorem x3G {w:World} {lo hi:Nat} [Inhabited (RwIn w lo hi)] (d:Array (RwIn w lo hi)):(flatK x4Q 2 d).toList=z1Z (prs (d.toList.map (·.1))):=by
 apply List.ext_getElem?;intro t;by_cases ht:t<d.size*2
 ·
  have h1:t / 2<d.size:=by omega
  have e1:(flatK x4Q 2 d).toList[t]? = some (x4Q d[t / 2]!)[t % 2]!:=by
   have:=get_flatK x4Q 2 d t ht;rw [getElem!_pos _ t (by simpa using ht)] at this;rw [<-this];simp [ht]
  rw [e1];have hl:t / 2<(prs (d.toList.map (·.1))).length:=by rw [z1H]; simpa using h1
  have eg:(prs (d.toList.map (·.1))).getD (t / 2) (vn,0)=(d[t / 2]!.1.1,d[t / 2]!.1.2.2):=by
   rw [getElem!_pos d (t / 2) h1];simp [prs,List.getD,h1]
  rcases Nat.mod_two_eq_zero_or_one t with hm | hm
  ·
   rw [hm];have:=cells2_get0 _ _ hl;rw [show t=t / 2*2 by omega,this,eg];simp [x4Q]
  ·
   rw [hm];have:=cells2_get1 _ _ hl;conv=>rhs; rw [show t=t / 2*2+1 by omega]
   rw [this,eg];simp [x4Q]
 ·
  rw [List.getElem?_eq_none (by simp; omega),List.getElem?_eq_none (by rw [j1D,z1H]; simp; omega)]
theorem z4G {F cur:Array Value} (h:F.size<=cur.size):(putCells id 0 F cur).size=cur.size/\(putCells id 0 F cur).toList.take F.size=F.toList:=by
 refine ⟨by simp [putCells],?_⟩;apply List.ext_getElem?;intro t;rw [List.getElem?_take];by_cases ht:t<F.size
 ·
  rw [if_pos ht];have h2:t<cur.size:=by omega
  have e:(putCells id 0 F cur)[t]? = some F[t]!:=by
   simp [putCells,h2,ht]
  rw [Array.getElem?_toList,e,getElem!_pos F t ht];simp [ht]
 ·
  rw [if_neg ht,List.getElem?_eq_none (by simpa using ht)]
theorem Own.ne_spine {w:World} {lo hi:Nat} {g n cap:Nat} {ps:List (Value × Int)} {v:Value} {xs:List Int} (S:z1P w lo hi (.slice (some ⟨g,0,none⟩) n cap) ps) (h:Own w lo hi v xs):v.ownBlock=none\/v.ownBlock≠some g:=j1G S h
theorem k5V (g n cap lo hi:Nat) (l:List Rw) (w:World) (S:z1P w lo hi (.slice (some ⟨g,0,none⟩) n cap) (prs l)) (R:∀ x∈l,Own w lo hi x.1 x.2.1) (hn:n=l.length) (hlim:n<=1099511627776) :
  Calls Tryz.prog 41 #[.slice (some ⟨g,0,none⟩) n cap,.func (.func 42) #[] #[]] w fun e w'=>e = .returned (.tuple #[])/\∃ l',l.Perm l'/\Asc (its l')/\z1P w' lo hi (.slice (some ⟨g,0,none⟩) n cap) (prs l')/\w.grownBy w' (some g):=by
 have hin:Inhabited (RwIn w lo hi):=⟨⟨(vn,([],0)),own_nil S.2.2.2⟩⟩;obtain ⟨d,hd⟩:∃ d:Array (RwIn w lo hi),d.toList.map (·.1)=l:=⟨(l.attach.map fun x=>(⟨x.1,R x.1 x.2⟩:RwIn w lo hi)).toArray,by rw [List.toList_toArray,List.map_map]; exact List.attach_map_subtype_val l⟩;have hds:d.size=n:=by rw [hn,<-hd]; simp
 have hsp:=S;obtain ⟨⟨hc1,hc2⟩,hS2,hS3,hS4⟩:=hsp;rcases hc2 with ⟨e,_⟩ | ⟨g',cap',cur,hv,hg1,hg,hnc,hcm,hcs,htake⟩
 ·
  simp at e
 simp only [Value.slice.injEq,Option.some.injEq,Addr.mk.injEq,and_true] at hv;obtain ⟨rfl,-,rfl⟩:=hv;have hgs:g<w.heap.size:=(Array.getElem?_eq_some_iff.1 hg).1;have hF:(flatK x4Q 2 d).size=n*2:=by rw [size_flatK,hds]
 have hlen:(prs l).length=n:=by rw [z1H,hn]
 have hH:HoldsK x4Q 2 w g 0 d:=by
  intro j hj;rw [hF] at hj;have hjc:j<cur.size:=by rw [hcs]; rw [hlen] at hnc; omega
  constructor
  ·
   have e1:(flatK x4Q 2 d).toList[j]? = cur.toList[j]?:=by
    rw [x3G,hd,<-htake,List.getElem?_take,if_pos (by rw [hlen]; exact hj)]
   rw [Array.getElem?_toList,Array.getElem?_toList] at e1;have e2:(flatK x4Q 2 d)[j]? = some (flatK x4Q 2 d)[j]!:=by rw [getElem!_pos _ j (by omega)]; simp
   rw [e2] at e1;simp [World.cell?,hg,<-e1]
  ·
   have:=S.frozenAt j;simpa using this
 have eg:∀ args w,(callFunc 42 args).run Tryz.prog w = .ok (.enter 42 args) w:=enters_of Tryz.func42 (by kernel_rfl) rfl;have hcmp:CmpLays Tryz.prog 42 #[] (x4Q (w:=w) (lo:=lo) (hi:=hi)) 2 cfR g 0 d.size w:=fun m os dk _ x y=>by
  have hW:=v2P (x4Q (w:=w) (lo:=lo) (hi:=hi)) 2 w g 0 m dk os
  have ix:=(x.2.keptB hW (Own.ne_spine S x.2)).ints
  have iy:=(y.2.keptB hW (Own.ne_spine S y.2)).ints
  obtain ⟨xa,xn,xc,ex⟩:=ix.shape
  obtain ⟨ya,yn,yc,ey⟩:=iy.shape
  rw [ex] at ix
  rw [ey] at iy
  have:=v3R xa xn xc x.1.2.2 x.1.2.1 ya yn yc y.1.2.2 y.1.2.1 _ ix iy
  rw [<-ex,<-ey] at this
  exact this
 have hcon:=AnyQ.slices_SortFunc Tryz.sortItems 2 Tryz.isAgg47 Tryz.sizeOf47 x4Q (fun _=>rfl) (fun x v hv=>by
  obtain ⟨xa,xn,xc,ex⟩:=x.2.ints.shape
  simp [x4Q] at hv
  rcases hv with rfl | rfl
  ·
   rw [ex]; rfl
  ·
   rfl) cfR swoR 42 #[] g 0 cap d w eg hcmp hH hgs (by omega)
 change Calls Tryz.prog 41 _ _ _ at hcon;rw [hds] at hcon;refine hcon.mono ?_;rintro e w' ⟨rfl,d',m,os,hp,hs,rfl⟩;have hd's:d'.size=n:=by rw [hp.1,hds]
 refine ⟨rfl,d'.toList.map (·.1),?_,?_,?_,v2P _ _ _ _ _ _ _ _⟩
 ·
  rw [<-hd];refine List.Perm.map _ ?_;have:=hp.2.2;rw [Array.extract_eq_self_of_le (by omega),Array.extract_eq_self_of_le (by omega)] at this;exact this.symm
 ·
  unfold Asc its;rw [List.map_map,List.pairwise_map,List.pairwise_iff_getElem];intro i j hi hj hij;simp only [Array.length_toList] at hi hj;have:=hs i j (Nat.zero_le _) hij (by omega);rw [ltR,decide_eq_false_iff_not,getElem!_pos d' i hi,getElem!_pos d' j hj] at this;simpa using this
 ·
  have hlen':(prs (d'.toList.map (·.1))).length=n:=by rw [z1H]; simpa using hd's
  have hF':(flatK x4Q 2 d').size=n*2:=by rw [size_flatK,hd's]
  have hpc:=z4G (F:=flatK x4Q 2 d') (cur:=cur) (by rw [hF',hcs]; rw [hlen] at hnc; omega);refine ⟨⟨by rw [j1D],.inr ⟨g,cap,_,by rw [hlen'],hg1,v4Q _ _ _ _ hg,by rw [hlen',<-hlen]; exact hnc,hcm,by rw [hpc.1]; exact hcs,?_⟩⟩,hS2,by rw [hlen',<-hlen]; exact hS3,Nat.le_trans hS4 (v2P _ _ _ _ _ _ _ _).size⟩;rw [hlen',<-hF',hpc.2,x3G]
theorem z5W (v:Value) (lo hi:Nat) (l:List Rw) (w:World) (S:z1P w lo hi v (prs l)) (R:∀ x∈l,Own w lo hi x.1 x.2.1) (hlim:l.length<=1099511627776) :
  Calls Tryz.prog 41 #[v,.func (.func 42) #[] #[]] w fun e w'=>e = .returned (.tuple #[])/\∃ l',l.Perm l'/\Asc (its l')/\z1P w' lo hi v (prs l')/\(∀ x∈l',Own w' lo hi x.1 x.2.1)/\Only lo hi w w':=by
 have hS:=S;rcases hS.1.2 with ⟨rfl,h0⟩ | ⟨g,cap,cur,rfl,hg1,hg,hnc,hcm,_⟩
 ·
  have hl:l=[]:=List.length_eq_zero_iff.1 (by rw [<-z1H]; exact h0);subst hl;have hcon:=AnyF.slices_SortFunc_none Tryz.sortItems none 0 (.func (.func 42) #[] #[]) w;change Calls Tryz.prog 41 _ _ _ at hcon;refine hcon.mono ?_;rintro e w' ⟨rfl,rfl⟩;exact ⟨rfl,[],List.Perm.refl _,List.Pairwise.nil,S,fun x hx=>by simp at hx,Only.refl _ _ _⟩
 ·
  have hlen:=z1H l;rw [hlen] at S ⊢;refine (k5V g l.length cap lo hi l w S R rfl hlim).mono ?_;rintro e w' ⟨rfl,l',hp,ha,hs,hgr⟩;have hgh:g<hi:=S.2.1 g rfl;refine ⟨rfl,l',hp,ha,hs,fun x hx=> ?_,Only.of_grown hgr (fun k hk=>by simp at hk; omega)⟩;have hx':=R x (hp.symm.subset hx);exact hx'.keptB hgr (Own.ne_spine S hx')
end Go.Proofs.YtmjaepdplbgohaaGreatDoor
namespace Go.Proofs.YtmjaepdplbgohaaGreatDoor
open Go.RowKit
attribute [local go_sem ↓] Go.wp_at_zero Go.wp_at_succ
theorem z5F {l:List Rw} {k:Nat} (hk:k<l.length):j1Z (l.take (k+1))=x2A (j1Z (l.take k)) (l.getD k (vn,([],0))):=by
 rw [List.take_succ_eq_append_getElem hk,z5G];simp [List.getD,hk]
theorem k3M (l:List Rw):(j1Z l).length<=l.length:=by
 have:=(q2W l).length_le;simpa using this
theorem j6V {l:List Rw} {C:Int} (hC0:0<=C) (h:∀ x∈l,-C<=x.2.2/\x.2.2<=C):∀ x∈j1Z l,-(l.length*C)<=x.2.2/\x.2.2<=l.length*C:=by
 intro x hx;have hm:x.2∈j6X (its l):=by rw [<-k3J]; exact List.mem_map.2 ⟨x,hx,rfl⟩
 have:=x3M hC0 (its l) [] 0 (by omega) (fun y hy=>by simp at hy) (fun p hp=>by
  obtain ⟨y,hy,rfl⟩:=List.mem_map.1 hp
  exact h y hy) x.2 hm
 rw [q1E] at this;simpa using this
theorem q4U {acc:List Rw} {x:Rw} (h:¬ (0<acc.length/\(acc.getD (acc.length - 1) (vn,([],0))).2.1=x.2.1)):x2A acc x=acc++[x]:=by unfold x2A; rw [if_neg h]
theorem j5R {acc:List Rw} {x:Rw} (h:0<acc.length/\(acc.getD (acc.length - 1) (vn,([],0))).2.1=x.2.1):x2A acc x=acc.set (acc.length - 1) ((acc.getD (acc.length - 1) (vn,([],0))).1,((acc.getD (acc.length - 1) (vn,([],0))).2.1,(acc.getD (acc.length - 1) (vn,([],0))).2.2+x.2.2)):=by unfold x2A; rw [if_pos h]
theorem z6K (l:List Rw) (k:Nat) (x:Rw):prs (l.set k x)=(prs l).set k (x.1,x.2.2):=by simp [prs,List.map_set]
theorem z3R (v:Value) (lo hi:Nat) (zs:List It) (w:World) (h:z1V w lo hi v zs) (hlo:lo<=hi) (hlen:zs.length<=1048576) (hw:∀ p∈zs,-1099511627776<=p.2/\p.2<=1099511627776) :
  Calls Tryz.prog 31 #[v] w fun e w'=> ∃ v',e = .returned v'/\z1V w' lo w'.heap.size v' (j1L [] zs)/\Only lo hi w w':=by
 obtain ⟨i0,hi0,hz0,hz1,hz2⟩:=info_parts infoItem;obtain ⟨l,hl,S,R,AP⟩:=h.opened;have hll:l.length<=1048576:=by rw [hl,q1E] at hlen; exact hlen
 have hhi:hi<=w.heap.size:=h.hi_le;clear h hlen;go_enter Tryz.func31,Tryz.ntmps31;go_wp2_with fail;refine (z5W v lo hi l _ S R (by omega)).mono ?_;rintro e w1 ⟨rfl,l',hp,ha,S1,R1,O1⟩;have hn':l'.length=l.length:=hp.length_eq.symm;have HADD:Hid (its ((j1Z l').filter nzR)=j1L [] zs):=by
  show _=_;rw [k3I,k3J,hl];exact j6W (hp.symm.map _) ha
 have HAP:Hid (z2W ((j1Z l').filter nzR)):=by
  have h1:z2W (j1Z l'):=x6F (k3P AP hp) (q2W l');exact List.Pairwise.sublist List.filter_sublist h1
 have HR1:Hid (∀ x∈(j1Z l').filter nzR,Own w1 lo hi x.1 x.2.1):=fun x hx=>by
  obtain ⟨y,hy,e1,e2⟩:=v4M (q2W l') (List.mem_filter.1 hx).1
  rw [<-e1,<-e2]
  exact R1 y hy
 have hri:j1T w1 l':=fun x hx=>(R1 x hx).ints;have hlow:∀ x∈l',-1099511627776<=x.2.2/\x.2.2<=1099511627776:=fun x hx=>hw x.2 (by rw [hl]; exact List.mem_map.2 ⟨x,hp.symm.subset hx,rfl⟩);have HLOW:Hid (∀ k,∀ x∈j1Z (l'.take k),-4611686018427387904<x.2.2 - 1099511627776/\x.2.2+1099511627776<4611686018427387904):=fun k x hx=>by
  have h1:=j6V (C:=1099511627776) (by omega) (fun y hy=>hlow y (List.mem_of_mem_take hy)) x hx
  have h2:(((l'.take k).length:Nat):Int)<=1048576:=by rw [List.length_take]; omega
  omega
 have hpr:=S1.pairs hri.shape;have hs1:w.heap.size<=w1.heap.size:=O1.size;have HO1:Hid (Only lo hi w w1):=O1;clear S R AP hl hw S1 R1 O1 ha hp;obtain ⟨n,hn⟩:∃ n,n=l'.length:=⟨_,rfl⟩;have HN:Hid (n=l'.length):=hn;have hnl:n<=1048576:=by omega
 have hclen:∀ k,(j1Z (l'.take k)).length<=1048576:=fun k=>by have:=k3M (l'.take k); rw [List.length_take] at this; omega
 obtain ⟨hpl,hps,a,cap,rfl,hna,hpc⟩:=hpr;rw [z1H,<-hn] at hpl hpc ⊢;have HSTART:Hid (z1P w1 w1.heap.size w1.heap.size (.slice none 0 0) (prs (j1Z (l'.take 0)))):=⟨⟨rfl,.inl ⟨rfl,rfl⟩⟩,fun k hk=>by simp [Value.ownBlock] at hk,by simp [j1Z,prs],Nat.le_refl _⟩;clear hn hn' hll hps hna;go_wp2;go_loopw [3,11] (fun s i wr=> ∃ (k:Nat),k<=n/\i = .int .i64 k/\Hid (z1P wr w1.heap.size wr.heap.size s (prs (j1Z (l'.take k))))/\Hid (Below w1.heap.size w1 wr)) (fun _ i _=>n - (intOf i).toNat)
 case atStart=>exact ⟨0,Nat.zero_le _,rfl,HSTART.out,Below.refl _ _⟩
 case round=>
  obtain ⟨k,hk,rfl,HS,HW⟩:=hrel;clear HSTART;by_cases hlt:k<n
  ·
   have hlt':k<l'.length:=by rw [<-HN.out]; exact hlt
   have HB:=HW.out;obtain ⟨b,off,rfl,hbw,hcell⟩:=hpc (by intro e; have h5:=z1H l'; rw [e] at h5; simp at h5; omega);obtain ⟨c0,c1⟩:=hcell k hlt;rw [x2V hlt'] at c0 c1;have hix0:=hri (l'.getD k (vn,([],0))) (by simp [List.getD,hlt']);have hyw:=hlow (l'.getD k (vn,([],0))) (by simp [List.getD,hlt']);have HT:Hid (j1Z (l'.take (k+1))=x2A (j1Z (l'.take k)) (l'.getD k (vn,([],0)))):=z5F hlt';have HLK:Hid _:=HLOW.out k;have hck:=hclen k;obtain ⟨x0,HX0⟩:∃ x0,Hid (x0=l'.getD k (vn,([],0))):=⟨_,rfl⟩;rw [<-HX0.out] at c0 c1 hix0 hyw HT;obtain ⟨xv,x,y⟩:=x0;simp only at c0 c1 hix0 hyw HT;have g0:=(HB.cell (p:=⟨b,off+k*2,none⟩) hbw).trans c0;have g1:=(HB.cell (p:=⟨b,off+k*2+1,none⟩) hbw).trans c1;have hix:=hix0.below HB;have hbr:b<wr.heap.size:=Nat.lt_of_lt_of_le hbw HB.size;obtain ⟨xa,xn,xc,rfl⟩:=hix.shape;have hsw:=HB.size;clear c0 c1 hix0 hcell hpc;obtain ⟨acc,HACC⟩:∃ acc,Hid (acc=j1Z (l'.take k)):=⟨_,rfl⟩;rw [<-HACC.out] at HS HT HLK hck;by_cases hacc:acc=[]
   ·
    subst hacc;have HTT:Hid (j1Z (l'.take (k+1))=[(.slice xa xn xc,(x,y))]):=by
     show _=_;rw [HT.out,q4U (by simp)];rfl
    have hsh:∃ sa sc,u3 = .slice sa 0 sc:=by
     rcases HS.out.1.2 with ⟨rfl,_⟩ | ⟨_,_,_,rfl,_⟩
     ·
      exact ⟨_,_,rfl⟩
     ·
      exact ⟨_,_,rfl⟩
    obtain ⟨sa,sc,rfl⟩:=hsh;obtain ⟨wa,hwa⟩:∃ wa,wa=wr.alloc (.cells #[.slice xa xn xc,.int .i64 y] 47):=⟨_,rfl⟩;have hba:Below wr.heap.size wr wa:=by rw [hwa]; exact z1C _
    have t0:wa.cell? ⟨wr.heap.size,0,none⟩=some (.slice xa xn xc):=by rw [hwa]; simp [go_sem]
    have t1:wa.cell? ⟨wr.heap.size,1,none⟩=some (.int .i64 y):=by rw [hwa]; simp [go_sem]
    have S2:z1P wa.drew w1.heap.size wr.heap.size (.slice sa 0 sc) (prs []):=(HS.out.keep' hba).keep' (Below.drew (Below.refl _ _));obtain ⟨hspW,hprW,hfin⟩:=x1N (xv:=.slice xa xn xc) y S2 ⟨_,_,_,rfl⟩ (by (show _<=wa.heap.size); have:=hba.size; omega) (by simp);have HBA:Hid (Below w1.heap.size w1 wa.drew):=(HB.trans (hba.mono hsw)).drew;have hwas:wr.heap.size<=wa.heap.size:=hba.size;have hp0:(prs ([]:List Rw)).length=0:=rfl;clear HS HW HB HT HLK hba hri hlow hix;go_wp2;rw [<-hwa];clear hwa;refine wp_region_held_drew (S:=(fun _=>True)) (by kernel_rfl) ?_ (fun hHeld=> ?_)
    ·
     (try dsimp only); all_goals trivial
    refine tk 0 ?_;simp only [Act.put,List.getElem_toArray,List.getElem_cons_zero,List.setIfInBounds_toArray,List.set_cons_zero,List.set_cons_succ];refine tk 1 ?_; go_simp;refine tk 2 ?_; go_simp;refine tu 3 ?_; go_simp;refine tu 4 ?_; go_simp;refine tu 5 ?_; go_simp;refine tu 6 ?_; go_simp;refine tu 7 ?_; go_simp;refine tu 8 ?_; go_simp;refine tu 9 ?_; go_simp;refine tu 10 ?_; go_simp;refine tk 11 ?_; go_simp;refine dn ?_;go_wp2_with (at_builtin; (refine z1K rfl _ _ 35 rfl w1.heap.size 47 i0 Tryz.underlying35 hi0 hz0 hz1 hz2 (.slice sa 0 sc) (prs []) rfl hspW _ _ rfl hprW (by simp; omega) (by simp; omega) ?_; intro v3 w3 hown3 hg3 _));obtain ⟨S3,B3⟩:=hfin v3 w3 x hown3 hg3;have HS3:Hid (z1P w3 w1.heap.size w3.heap.size v3 (prs [(.slice xa xn xc,(x,y))])):=S3;have HK:Hid (Below w1.heap.size w1 w3):=HBA.out.trans B3;clear hfin hown3 hg3 hspW hprW B3 HBA S3 S2;go_wp2;go_roundw
    case rel=>exact ⟨k+1,by omega,by go_num,by show z1P _ _ _ _ _; rw [HTT.out]; exact HS3.out,HK.out⟩
    case measure=>simp [intOf]; omega
   ·
    obtain ⟨m,hm⟩:∃ m,acc.length=m+1:=⟨acc.length - 1,by have:=List.length_pos_iff.2 hacc; omega⟩;have hml:m<acc.length:=by omega
    obtain ⟨gs,sc,hu3,hgs1,hgs2,hgc,hgm⟩:=HS.out.shape (by rw [z1H]; omega);rw [z1H,hm] at hu3 hgc;subst hu3;have hqi0:z1E wr (acc.getD m (vn,([],0))).1 (acc.getD m (vn,([],0))).2.1:=by
     obtain ⟨z,hz,e1,e2⟩:=v4M (by rw [HACC.out]; exact q2W (l'.take k)) (show acc.getD m (vn,([],0))∈acc by simp [List.getD,hml]);rw [<-e1,<-e2];exact (hri z (List.mem_of_mem_take hz)).below HB
    have hqw:=HLK.out (acc.getD m (vn,([],0))) (by simp [List.getD,hml]);have c0:=HS.out.cell0 (j:=m) (by rw [z1H]; exact hml);have c1:=HS.out.cell1 (j:=m) (by rw [z1H]; exact hml);rw [x2V hml] at c0 c1;have hnew:¬ (acc.getD m (vn,([],0))).2.1=x->x2A acc (.slice xa xn xc,(x,y))=acc++[(.slice xa xn xc,(x,y))]:=fun hne=>q4U (fun hc=>hne (by have:=hc.2; rw [hm] at this; exact this));have hold:(acc.getD m (vn,([],0))).2.1=x->x2A acc (.slice xa xn xc,(x,y))=acc.set m ((acc.getD m (vn,([],0))).1,((acc.getD m (vn,([],0))).2.1,(acc.getD m (vn,([],0))).2.2+y)):=fun he=>by
     have:=j5R (acc:=acc) (x:=(.slice xa xn xc,(x,y))) ⟨by omega,by rw [hm]; exact he⟩
     rw [hm] at this
     exact this
    obtain ⟨q,HQ⟩:∃ q,Hid (q=acc.getD m (vn,([],0))):=⟨_,rfl⟩;rw [<-HQ.out] at hqi0 hqw c0 c1 hnew hold;obtain ⟨qv,qx,qy⟩:=q;simp only at hqi0 hqw c0 c1 hnew hold;obtain ⟨qa,qn,qc,rfl⟩:=hqi0.shape;obtain ⟨wa,hwa⟩:∃ wa,wa=wr.alloc (.cells #[.slice xa xn xc,.int .i64 y] 47):=⟨_,rfl⟩;have hba:Below wr.heap.size wr wa:=by rw [hwa]; exact z1C _
    have hbl:wr.heap.size<wa.heap.size:=by rw [hwa]; simp
    have hgl:gs<wa.heap.size:=by omega
    have t0:wa.cell? ⟨wr.heap.size,0,none⟩=some (.slice xa xn xc):=by rw [hwa]; simp [go_sem]
    have t1:wa.cell? ⟨wr.heap.size,1,none⟩=some (.int .i64 y):=by rw [hwa]; simp [go_sem]
    have r0:=q1N (p:=⟨gs,m*2,none⟩) hba hgs2 c0;have r1:=q1N (p:=⟨gs,m*2+1,none⟩) hba hgs2 c1;have hxd:z1E wa.drew (.slice xa xn xc) x:=(hix.below hba).below (Below.drew (Below.refl _ _));have hqd:z1E wa.drew (.slice qa qn qc) qx:=(hqi0.below hba).below (Below.drew (Below.refl _ _));have SA:z1P wa w1.heap.size wr.heap.size (.slice (some ⟨gs,0,none⟩) (m+1) sc) (prs acc):=HS.out.keep' hba;have HBA:Hid (Below w1.heap.size w1 wa):=HB.trans (hba.mono hsw);have hlast:((m+1:Nat):Int) - 1=(m:Int):=by omega
    have hge:(0:Int)<=(m:Int):=by omega
    have hm1:m<m+1:=by omega
    clear HS HW HB HLK hba hri hlow hix hqi0 c0 c1;obtain ⟨sm,HSM⟩:∃ sm,Hid (sm=q1Z qx x):=⟨_,rfl⟩;go_wp2;rw [<-hwa];clear hwa;go_region_held (fun w'=>w'.cell? ⟨gs,m*2,none⟩=some (.slice qa qn qc)/\w'.cell? ⟨wr.heap.size,0,none⟩=some (.slice xa xn xc)) (go_keep)
     ((go_at_call 69; refine (x3C _ _ qx x _ hqd hxd).mono ?_; rw [<-HSM.out]; rintro e w2 ⟨rfl,hb2⟩; have q0:=q1N (p:=⟨gs,m*2,none⟩) hb2 hgl r0; have q1:=q1N (p:=⟨wr.heap.size,0,none⟩) hb2 hbl t0))
    all_goals
     have hk2:Below wa.heap.size wa w2:=(Below.drew (Below.refl _ wa)).trans hb2
     have t1':=q1N (p:=⟨wr.heap.size,1,none⟩) hk2 hbl t1
     have r1':=q1N (p:=⟨gs,m*2+1,none⟩) hk2 hgl r1
     have S2:z1P w2 w1.heap.size wr.heap.size (.slice (some ⟨gs,0,none⟩) (m+1) sc) (prs acc):=SA.keep' hk2
     have HB2:Hid (Below w1.heap.size w1 w2):=HBA.out.trans (hk2.mono (by omega))
     have hs2:=hk2.size
     clear hb2 hxd hqd SA HBA t0 t1 r0 r1
     cases hsm:sm with
     | false=>
      have HTT:Hid (j1Z (l'.take (k+1))=acc++[(.slice xa xn xc,(x,y))]):=by
       show _=_;rw [HT.out];refine hnew (fun e=> ?_);have h1:=HSM.out;rw [hsm,k5Y e] at h1;cases h1
      subst hsm
      obtain ⟨hspW,hprW,hfin⟩:=x1N (xv:=.slice xa xn xc) y S2 ⟨_,_,_,rfl⟩ (by omega) (by omega)
      have hpa:(prs acc).length<=1048576:=by rw [z1H]; exact hck
      clear hnew hold HT S2 r1' HSM
      go_wp2_with (at_builtin; (refine z1K rfl _ _ 35 rfl w1.heap.size 47 i0 Tryz.underlying35 hi0 hz0 hz1 hz2 (.slice (some ⟨gs,0,none⟩) (m+1) sc) (prs acc) rfl hspW _ _ rfl hprW (by simp; omega) (by simp; omega) ?_; intro v3 w3 hown3 hg3 _))
      obtain ⟨S3,B3⟩:=hfin v3 w3 x hown3 hg3
      have HS3:Hid (z1P w3 w1.heap.size w3.heap.size v3 (prs (acc++[(.slice xa xn xc,(x,y))]))):=S3
      have HK:Hid (Below w1.heap.size w1 w3):=HB2.out.trans B3
      clear hfin hown3 hg3 hspW hprW B3 HB2 S3
      go_wp2
      go_roundw
      case rel=>exact ⟨k+1,by omega,by go_num,by show z1P _ _ _ _ _; rw [HTT.out]; exact HS3.out,HK.out⟩
      case measure=>simp [intOf]; omega
     | true=>
      have HTT:Hid (j1Z (l'.take (k+1))=acc.set m (.slice qa qn qc,(qx,qy+y))):=by
       show _=_;rw [HT.out];refine hold ?_;have h1:=HSM.out;rw [hsm] at h1;rw [j2B] at h1;exact of_decide_eq_true h1.symm
      subst hsm
      have st:=S2.stored1 (j:=m) (by rw [z1H]; exact hml) (qy+y)
      rw [x2V hml,<-HQ.out] at st
      have HS3:Hid (z1P (w2.setCell ⟨gs,m*2+1,none⟩ (.int .i64 (qy+y))) w1.heap.size wr.heap.size (.slice (some ⟨gs,0,none⟩) (m+1) sc) (prs (acc.set m (.slice qa qn qc,(qx,qy+y))))):=by
       show z1P _ _ _ _ _;rw [z6K];exact st.1
      have HK:Hid (Below w1.heap.size w1 (w2.setCell ⟨gs,m*2+1,none⟩ (.int .i64 (qy+y)))):=HB2.out.setCell (p:=⟨gs,m*2+1,none⟩) hgs1 _
      have hfz:=S2.frozenAt (m*2+1)
      have hsz3:wr.heap.size<=(w2.setCell ⟨gs,m*2+1,none⟩ (.int .i64 (qy+y))).heap.size:=by simp; omega
      have hsum : -9223372036854775808<=qy+y/\qy+y<=9223372036854775807:=by omega
      clear hnew hold HT S2 HSM st HB2
      go_wp2
      go_region_law (fail)
      all_goals
       go_wp2
       go_roundw
       case rel=>exact ⟨k+1,by omega,by go_num,by show z1P _ _ _ _ _; rw [HTT.out]; exact (HS3.out.keep' (Below.drew (Below.refl _ _))).wide (Nat.le_refl _) hsz3 (Nat.le_refl _),HK.out.drew⟩
       case measure=>simp [intOf]; omega
  ·
   have e:k=n:=by omega
   subst e;have SE:=HS.out;have hBE:=HW.out;have HRE:Hid (∀ x∈(j1Z l').filter nzR,Own wr lo hi x.1 x.2.1):=fun x hx=>(HR1.out x hx).keep (hBE.mono (by omega));rw [HN.out,List.take_length] at SE;have hsh:∀ p∈prs (j1Z l'),∃ a n c,p.1=Value.slice a n c:=fun p hp=>by
    obtain ⟨z,hz,rfl⟩:=List.mem_map.1 hp
    obtain ⟨z',hz',e1,_⟩:=v4M (q2W l') hz
    have:=(hri z' hz').shape
    rw [e1] at this
    exact this
   have hle:(j1Z l').length<=2097152:=by have:=k3M l'; rw [<-HN.out] at this; omega
   have hsw:=hBE.size;clear hpc hri hlow HS HW hclen;go_wp2_with fail;refine (v2M _ _ _ (j1Z l') _ SE hsh hle).mono ?_;rintro e w2 ⟨v2,rfl,-,S2,O2⟩;have S3:z1P w2 lo w2.heap.size v2 (prs ((j1Z l').filter nzR)):=S2.wide (by omega) (by have:=O2.size; omega) (Nat.le_refl _);have R3:∀ x∈(j1Z l').filter nzR,Own w2 lo w2.heap.size x.1 x.2.1:=fun x hx=>((HRE.out x hx).only O2 (.inl (by omega))).wide (Nat.le_refl _) (by have:=O2.size; omega) (Nat.le_refl _);have HZ:Hid (z1V w2 lo w2.heap.size v2 (j1L [] zs)):=by
    show z1V _ _ _ _ _;rw [<-HADD.out];exact z1V.closed S3 R3 HAP.out
   have HK:Hid (Only lo hi w w2):=⟨O2.os.trans (hBE.os.trans HO1.out.os),O2.tape.trans (hBE.tape.trans HO1.out.tape),O2.output.trans (hBE.output.trans HO1.out.output),by have:=O2.size; omega,fun i hi' hr=>(O2.block i (by omega) (.inl (by omega))).trans ((hBE.block i (by omega)).trans (HO1.out.block i hi' hr))⟩;clear S2 S3 R3 O2 SE hsh;go_wp2;go_ret;exact ⟨_,rfl,HZ.out,HK.out⟩
def q2K (cs:List Cel) (zs:List It):List It:=zs.map fun p=>(v2R cs p.1,p.2)
def k1W (cs:List Cel) (zs:List It):Bool:=q1G zs&&decide (1<=cs.length/\cs.length<=6)&&zs.all fun p=>k1U cs p.1
def v2E (cs:List Cel) (zs:List It):Bool:=k1W cs zs&&q1G (j1L [] (q2K cs zs))
def z2O (cs:List Cel) (zs:List It):List It:=if v2E cs zs then j1L [] (q2K cs zs) else []
theorem j4V {cs:List Cel} {zs:List It} {k:Nat} (hk:k<zs.length):q2K cs (zs.take (k+1))=q2K cs (zs.take k)++[(v2R cs (zs.getD k ([],0)).1,(zs.getD k ([],0)).2)]:=by
 unfold q2K;rw [List.take_succ_eq_append_getElem hk,List.map_append];simp [List.getD,hk]
theorem z4N (cs:List Cel) (zs:List It):(q2K cs zs).length=zs.length:=by simp [q2K]
theorem x2F {cs:List Cel} {zs:List It} (h:k1W cs zs=false):v2E cs zs=false/\z2O cs zs=[]:=by
 have:v2E cs zs=false:=by unfold v2E; rw [h,Bool.false_and]
 exact ⟨this,by unfold z2O; rw [this]; rfl⟩
theorem map_no {cs:List Cel} {zs:List It} {k:Nat} (hk:k<zs.length) (h:k1U cs (zs.getD k ([],0)).1=false):k1W cs zs=false:=by
 have:(zs.all fun p=>k1U cs p.1)=false:=by
  rw [List.all_eq_false];exact ⟨zs.getD k ([],0),by simp [List.getD,hk],by rw [h]; simp⟩
 unfold k1W;rw [this,Bool.and_false]
theorem q6I {cs:List Cel} {zs:List It} (hz:q1G zs=true) (hl:1<=cs.length/\cs.length<=6) (h:∀ k,k<zs.length->k1U cs (zs.getD k ([],0)).1=true):k1W cs zs=true:=by
 have:(zs.all fun p=>k1U cs p.1)=true:=by
  rw [List.all_eq_true];intro p hp;obtain ⟨j,hj,e⟩:=j1J (d:=([],0)) hp;rw [<-e];exact h j hj
 unfold k1W;rw [hz,this];simp [hl]
theorem map_in {cs:List Cel} {zs:List It} (hz:q1G zs=true):∀ z∈q2K cs zs,-10000<=z.2/\z.2<=10000:=fun z hzm=>by
 obtain ⟨p,hp,rfl⟩:=List.mem_map.1 hzm
 obtain ⟨j,hj,e⟩:=j1J (d:=([],0)) hp
 have:=(x3U (j1S hz hj).2).2
 rw [e] at this
 exact this
theorem k4X (v u:Value) (zs:List It) (cs:List Cel) (w:World) (p:Addr) (hs:v1J w p) (h:z1I w v zs) (hc:q2Z w u cs) :
  Calls Tryz.prog 9 #[v,u] w fun e w'=> ∃ v',e = .returned (.tuple #[v',.bool (v2E cs zs)])/\z1V w' w.heap.size w'.heap.size v' (z2O cs zs)/\Below w.heap.size w w':=by
 obtain ⟨i0,hi0,hz0,hz1,hz2⟩:=info_parts infoItem;have HU:Hid (q2Z w u cs):=hc;obtain ⟨ua,uc,rfl⟩:∃ ua uc,u = .slice ua cs.length uc:=by obtain ⟨ua,uc,e,_⟩:=hc; exact ⟨ua,uc,e⟩
 clear hc;obtain ⟨m,hm⟩:∃ m,m=cs.length:=⟨_,rfl⟩;have HM:Hid (m=cs.length):=hm;rw [<-hm] at HU ⊢;clear hm;cases hok:q1G zs with
 | false=>
  obtain ⟨e0,e1⟩:=x2F (cs:=cs) (zs:=zs) (by simp [k1W,hok]);rw [e0,e1];go_enter Tryz.func9,Tryz.ntmps9;go_wp2_with fail;refine (z1O v zs _ h).mono ?_;rw [hok];rintro e w1 ⟨rfl,hb1⟩;have HB1:Hid (Below w.heap.size w w1):=hb1;clear h hb1 e0 e1;go_wp2;go_ret2;exact ⟨_,rfl,q1D _ _,HB1.out⟩
 | true=>
  by_cases hlen:1<=m/\m<=6
  ·
   have h1i:¬ ((m:Int)<1):=by omega
   have h6i:¬ ((m:Int) > 6):=by omega
   have h100:=v1B hok;have HOK:Hid (q1G zs=true):=hok;obtain ⟨os,HO⟩:∃ os,Hid (os=z2O cs zs):=⟨_,rfl⟩;obtain ⟨d,HD⟩:∃ d,Hid (d=v2E cs zs):=⟨_,rfl⟩;rw [<-HO.out,<-HD.out];go_enter Tryz.func9,Tryz.ntmps9;go_wp2_with fail;refine (z1O v zs _ h).mono ?_;rw [hok];rintro e w1 ⟨rfl,hb1⟩;have HB1:Hid (Below w.heap.size w w1):=hb1;have hh:=h.below HB1.out;have HS:Hid (v1J w1 p):=hs.below HB1.out;have HU1:Hid (q2Z w1 (.slice ua m uc) cs):=HU.out.below HB1.out;have hsz1:=HB1.out.size;clear h hb1 hok hs;have HEND:Hid (k1W cs zs=true->d=q1G (j1L [] (q2K cs zs))/\os=if q1G (j1L [] (q2K cs zs)) then j1L [] (q2K cs zs) else []):=fun e=>by
    have e0:v2E cs zs=q1G (j1L [] (q2K cs zs)):=by unfold v2E; rw [e,Bool.true_and]
    exact ⟨HD.out.trans e0,by rw [HO.out,z2O,e0]⟩
   have HNOT:Hid (k1W cs zs=false->d=false/\os=[]):=fun e=>⟨HD.out.trans (x2F e).1,HO.out.trans (x2F e).2⟩;rcases hh.cases with ⟨za,zc,rfl,rfl⟩ | ⟨b,off,cap,hpos,hlim,rfl,hbw,hcell⟩
   ·
    obtain ⟨hd,hos⟩:=HEND.out (by unfold k1W; rw [<-HM.out]; simp [hlen,q1G]);have hz0':q1G (j1L [] (q2K cs []))=true:=by simp [q2K,j1L,q1G]
    have he0:j1L [] (q2K cs [])=[]:=rfl;rw [hz0'] at hd hos;rw [he0] at hos;simp only [if_true] at hos;subst hd hos;clear hh;go_wp2;refine wp_loop_rounds 1 ?_;rw [rounds_succ];go_wp2_with fail;refine (z3R _ w1.heap.size w1.heap.size [] _ (q1D w1 _) (Nat.le_refl _) (by simp) (fun p hp=>by simp at hp)).mono ?_;rintro e w2 ⟨v2,rfl,Z2,O2⟩;have hk2:Below w.heap.size w w2:=O2.below HB1.out hsz1 HB1.out.size;have hs2:=O2.size;go_wp2_with fail;refine (v1G v2 [] _ _ _ Z2 (by omega)).mono ?_;rintro e w3 ⟨v3,rfl,Z3,hb3⟩;have hzz:q1G []=true:=by simp [q1G]
    rw [hzz] at Z3 ⊢;have HK:Hid (Below w.heap.size w w3):=z1D hk2 hb3;have R:Hid (z1V w3 w.heap.size w3.heap.size v3 []):=Z3.wide hsz1 (Nat.le_refl _) (Nat.le_refl _);clear Z2 O2 hk2 Z3 hb3;go_wp2;go_ret2;exact ⟨_,rfl,R.out,HK.out⟩
   ·
    clear hh;obtain ⟨n,hn⟩:∃ n,n=zs.length:=⟨_,rfl⟩;have HN:Hid (n=zs.length):=hn;rw [<-hn] at hpos hlim hcell h100 ⊢;clear hn;go_wp2;go_loopw [6,26] (fun s i wr=> ∃ (k:Nat),k<=n/\i = .int .i64 k/\Hid (z1V wr w1.heap.size wr.heap.size s (q2K cs (zs.take k)))/\Hid (Below w1.heap.size w1 wr)/\Hid (∀ j,j<k->k1U cs (zs.getD j ([],0)).1=true)) (fun _ i _=>n - (intOf i).toNat)
    case atStart=>exact ⟨0,Nat.zero_le _,rfl,q1D _ _,Below.refl _ _,fun j hj=>by omega⟩
    case round=>
     obtain ⟨k,hk,rfl,HZ,HW,HA⟩:=hrel;by_cases hlt:k<n
     ·
      have hk':k<zs.length:=by rw [<-HN.out]; exact hlt
      have hbq:=HW.out;obtain ⟨rv,c0,c1,hix0⟩:=hcell k hlt;have HT:Hid _:=j4V (cs:=cs) hk';have hno:=map_no (cs:=cs) hk';have hyw:=(x3U (j1S HOK.out hk').2).2;have hxl:=k1Z (j1S HOK.out hk').1;obtain ⟨q,HQ⟩:∃ q,Hid (q=zs.getD k ([],0)):=⟨_,rfl⟩;rw [<-HQ.out] at c1 hix0 HT hno hyw hxl;obtain ⟨x,y⟩:=q;simp only at c1 hix0 HT hno hyw hxl;have hix:=hix0.below hbq;obtain ⟨ra,rn,rc,rfl⟩:=hix.shape;have g0:=(hbq.cell (p:=⟨b,off+k*2,none⟩) hbw).trans c0;have g1:=(hbq.cell (p:=⟨b,off+k*2+1,none⟩) hbw).trans c1;have hbr:b<wr.heap.size:=Nat.lt_of_lt_of_le hbw hbq.size;have hml:(q2K cs (zs.take k)).length<=100:=by rw [z4N,List.length_take]; omega
      have hcl:cs.length<=6:=by rw [<-HM.out]; omega
      have hcl1:1<=cs.length:=by rw [<-HM.out]; omega
      clear c0 c1 hix0 hcell;go_wp2_with fail;refine (z6E _ _ cs x _ p ((HS.out.below hbq).below (z1C _)) ((HU1.out.below hbq).below (z1C _)) (hix.alloc _) hcl1 hcl).mono ?_;rintro e w2 ⟨v2,rfl,O2,hb2⟩;have hk2:Below wr.heap.size wr w2:=z1D (z1C _) hb2;have hw2:w2.heap[wr.heap.size]? = some (.cells #[.slice ra rn rc,.int .i64 y] 47):=z1F (alloc_at _ _) hb2;have d1:w2.cell? ⟨wr.heap.size,1,none⟩=some (.int .i64 y):=by simp [World.cell?,hw2]
      have hbl:wr.heap.size+1<=w2.heap.size:=by have:=hb2.size; simpa using this
      clear hb2 hw2 hix g0 g1;cases ht:k1U cs x with
      | false=>
       obtain ⟨hd,hos⟩:=HNOT.out (hno ht);have HK:Hid (Below w.heap.size w w2):=HB1.out.trans ((hbq.mono hsz1).trans (hk2.mono (by have:=hbq.size; omega)));subst hd hos;clear hno ht HT HZ HW HA hbq hk2 O2 d1;go_wp2;go_ret2;exact ⟨_,rfl,q1D _ _,HK.out⟩
      | true=>
       have HA2:Hid (∀ j,j<k+1->k1U cs (zs.getD j ([],0)).1=true):=fun j hj=>by
        rcases Nat.lt_succ_iff_lt_or_eq.1 hj with h | h
        ·
         exact HA.out j h
        ·
         rw [h,<-HQ.out]; exact ht
       rw [ht] at O2;simp only [if_true] at O2;obtain ⟨xr,HXR⟩:∃ xr,Hid (xr=v2R cs x):=⟨_,rfl⟩;rw [<-HXR.out] at O2 HT;obtain ⟨ra2,rn2,rc2,rfl⟩:=O2.ints.shape;have hszw:=hbq.size;have O2':Own w2 wr.heap.size w2.heap.size (.slice ra2 rn2 rc2) xr:=O2.wide (by simp) (Nat.le_refl _) (Nat.le_refl _);obtain ⟨ps,hpsl,hspW,hprW,hfin⟩:=(HZ.out.keep' hk2).ready y O2' (Nat.le_refl _) (by omega) (by omega) (by omega);have hpl2:ps.length<=100:=by omega
       have HKW:Hid (Below w1.heap.size w1 w2):=hbq.trans (hk2.mono hszw);clear hno ht HZ HW HA hbq hk2 O2 O2' hpsl;go_wp2_with (at_builtin; (refine z1K rfl _ _ 35 rfl w1.heap.size 47 i0 Tryz.underlying35 hi0 hz0 hz1 hz2 u6 ps rfl hspW _ _ rfl hprW (by simp; omega) (by simp; omega) ?_; intro v3 w3 hown3 hg3 _));obtain ⟨Z3,B3⟩:=hfin v3 w3 hown3 hg3;have HZ3:Hid (z1V w3 w1.heap.size w3.heap.size v3 (q2K cs (zs.take (k+1)))):=by rw [Hid,HT.out]; exact Z3
       have HK:Hid (Below w1.heap.size w1 w3):=HKW.out.trans B3;clear hfin hown3 hg3 hspW hprW B3 Z3 HKW;go_wp2;go_roundw
       case rel=>exact ⟨k+1,by omega,by go_num,HZ3.out,HK.out,HA2.out⟩
       case measure=>simp [intOf]; omega
     ·
      obtain rfl:k=n:=by omega
      have hZ:=HZ.out;rw [HN.out,List.take_length] at hZ;obtain ⟨hd,hos⟩:=HEND.out (q6I HOK.out (by rw [<-HM.out]; exact hlen) (fun j hj=>HA.out j (by rw [HN.out]; exact hj)));have hbq:=HW.out;have hsq:=hbq.size;clear hcell;have hin:∀ z∈q2K cs zs,-1099511627776<=z.2/\z.2<=1099511627776:=fun z hz=>by have:=map_in (cs:=cs) HOK.out z hz; omega
      have hmln:(q2K cs zs).length<=1048576:=by rw [z4N,<-HN.out]; omega
      go_wp2_with fail;refine (z3R _ w1.heap.size wr.heap.size (q2K cs zs) _ hZ hsq hmln hin).mono ?_;rintro e w2 ⟨v2,rfl,Z2,O2⟩;have hk2:Below w.heap.size w w2:=O2.below (HB1.out.trans (hbq.mono hsz1)) hsz1 (by omega);have hs2:=O2.size;clear hZ hin O2;go_wp2_with fail;refine (v1G v2 (j1L [] (q2K cs zs)) _ _ _ Z2 (by omega)).mono ?_;rw [<-hos,<-hd];rintro e w3 ⟨v3,rfl,Z3,hb3⟩;have HK:Hid (Below w.heap.size w w3):=z1D hk2 hb3;have R:Hid (z1V w3 w.heap.size w3.heap.size v3 os):=Z3.wide hsz1 (Nat.le_refl _) (Nat.le_refl _);clear Z2 hk2 Z3 hb3 hd hos;go_wp2;go_ret2;exact ⟨_,rfl,R.out,HK.out⟩
  ·
   obtain ⟨e0,e1⟩:=x2F (cs:=cs) (zs:=zs) (by
    have:decide (1<=cs.length/\cs.length<=6)=false:=by rw [<-HM.out]; simpa using hlen
    unfold k1W
    rw [this,Bool.and_false,Bool.false_and])
   rw [e0,e1];by_cases h1:m<1
   ·
    have h1i:(m:Int)<1:=by omega
    go_enter Tryz.func9,Tryz.ntmps9;go_wp2_with fail;refine (z1O v zs _ h).mono ?_;rw [hok];rintro e w1 ⟨rfl,hb1⟩;have HB1:Hid (Below w.heap.size w w1):=hb1;clear h hb1 e0 e1;go_wp2;go_ret2;exact ⟨_,rfl,q1D _ _,HB1.out⟩
   ·
    have h1i:¬ ((m:Int)<1):=by omega
    have h6i:(m:Int) > 6:=by omega
    go_enter Tryz.func9,Tryz.ntmps9;go_wp2_with fail;refine (z1O v zs _ h).mono ?_;rw [hok];rintro e w1 ⟨rfl,hb1⟩;have HB1:Hid (Below w.heap.size w w1):=hb1;clear h hb1 e0 e1;go_wp2;go_ret2;exact ⟨_,rfl,q1D _ _,HB1.out⟩
theorem v4P (v u:Value) (zs:List It) (cs:List Cel) (w:World) (h:z1I w v zs) (hc:q2Z w u cs) :
  Calls Tryz.prog 64 #[v,u] w fun e w'=> ∃ v',e = .returned (.tuple #[v',.bool (v2E cs zs)])/\z1V w' w.heap.size w'.heap.size v' (z2O cs zs)/\Below w.heap.size w w':=by
 obtain ⟨i0,hi0,hz0,hz1,hz2⟩:=info_parts infoItem;have HU:Hid (q2Z w u cs):=hc;obtain ⟨ua,uc,rfl⟩:∃ ua uc,u = .slice ua cs.length uc:=by obtain ⟨ua,uc,e,_⟩:=hc; exact ⟨ua,uc,e⟩
 clear hc;obtain ⟨m,hm⟩:∃ m,m=cs.length:=⟨_,rfl⟩;have HM:Hid (m=cs.length):=hm;rw [<-hm] at HU ⊢;clear hm;cases hok:q1G zs with
 | false=>
  obtain ⟨e0,e1⟩:=x2F (cs:=cs) (zs:=zs) (by simp [k1W,hok]);rw [e0,e1];go_enter Tryz.func64,Tryz.ntmps64;go_wp2_with fail;refine (z1M v zs _ h).mono ?_;rw [hok];rintro e w1 ⟨rfl,hd1⟩;have HB1:Hid (Below w.heap.size w w1):=hd1.below;clear h hd1 e0 e1;go_wp2;go_ret2;exact ⟨_,rfl,(z1T w1).wide HB1.out.size (Nat.le_refl _) (Nat.le_refl _),z1D HB1.out (z1C _)⟩
 | true=>
  by_cases hlen:1<=m/\m<=6
  ·
   have h1i:¬ ((m:Int)<1):=by omega
   have h6i:¬ ((m:Int) > 6):=by omega
   have h100:=v1B hok;have HOK:Hid (q1G zs=true):=hok;obtain ⟨os,HO⟩:∃ os,Hid (os=z2O cs zs):=⟨_,rfl⟩;obtain ⟨d,HD⟩:∃ d,Hid (d=v2E cs zs):=⟨_,rfl⟩;rw [<-HO.out,<-HD.out];go_enter Tryz.func64,Tryz.ntmps64;go_wp2_with fail;refine (z1M v zs _ h).mono ?_;rw [hok];rintro e w1 ⟨rfl,hd1⟩;have HB1:Hid (Below w.heap.size w w1):=hd1.below;have hh:=h.below HB1.out;have HU1:Hid (q2Z w1 (.slice ua m uc) cs):=HU.out.below HB1.out;have hsz1:=HB1.out.size;clear h hd1 hok;have HEND:Hid (k1W cs zs=true->d=q1G (j1L [] (q2K cs zs))/\os=if q1G (j1L [] (q2K cs zs)) then j1L [] (q2K cs zs) else []):=fun e=>by
    have e0:v2E cs zs=q1G (j1L [] (q2K cs zs)):=by unfold v2E; rw [e,Bool.true_and]
    exact ⟨HD.out.trans e0,by rw [HO.out,z2O,e0]⟩
   have HNOT:Hid (k1W cs zs=false->d=false/\os=[]):=fun e=>⟨HD.out.trans (x2F e).1,HO.out.trans (x2F e).2⟩;rcases hh.cases with ⟨za,zc,rfl,rfl⟩ | ⟨b,off,cap,hpos,hlim,rfl,hbw,hcell⟩
   ·
    obtain ⟨hd,hos⟩:=HEND.out (by unfold k1W; rw [<-HM.out]; simp [hlen,q1G]);have hz0':q1G (j1L [] (q2K cs []))=true:=by simp [q2K,j1L,q1G]
    have he0:j1L [] (q2K cs [])=[]:=rfl;rw [hz0'] at hd hos;rw [he0] at hos;simp only [if_true] at hos;subst hd hos;clear hh;go_wp2;refine wp_loop_rounds 1 ?_;rw [rounds_succ];go_wp2_with fail;refine (k1H _ [] _ _ _ (z1T w1) (by simp)).mono ?_;rintro e w3 ⟨v3,rfl,Z3,hb3⟩;have hzz:q1G []=true:=by simp [q1G]
    rw [hzz] at Z3 ⊢;have HK:Hid (Below w.heap.size w w3):=z1D (z1D HB1.out (z1C _)) hb3;have R:Hid (z1V w3 w.heap.size w3.heap.size v3 []):=Z3.wide hsz1 (Nat.le_refl _) (Nat.le_refl _);clear Z3 hb3;go_wp2;go_ret2;exact ⟨_,rfl,R.out,HK.out⟩
   ·
    clear hh;obtain ⟨n,hn⟩:∃ n,n=zs.length:=⟨_,rfl⟩;have HN:Hid (n=zs.length):=hn;rw [<-hn] at hpos hlim hcell h100 ⊢;clear hn;go_wp2;go_loopw [6,7] (fun s i wr=> ∃ (k:Nat),k<=n/\i = .int .i64 k/\Hid (z1V wr w1.heap.size wr.heap.size s (j1L [] (q2K cs (zs.take k))))/\Hid (Below w1.heap.size w1 wr)/\Hid (∀ j,j<k->k1U cs (zs.getD j ([],0)).1=true)) (fun _ i _=>n - (intOf i).toNat)
    case atStart=>exact ⟨0,Nat.zero_le _,rfl,z1T w1,z1C _,fun j hj=>by omega⟩
    case round=>
     obtain ⟨k,hk,rfl,HZ,HW,HA⟩:=hrel;by_cases hlt:k<n
     ·
      have hk':k<zs.length:=by rw [<-HN.out]; exact hlt
      have hbq:=HW.out;obtain ⟨rv,c0,c1,hix0⟩:=hcell k hlt;have HT:Hid _:=j4V (cs:=cs) hk';have hno:=map_no (cs:=cs) hk';have hyw:=(x3U (j1S HOK.out hk').2).2;have hxl:=k1Z (j1S HOK.out hk').1;obtain ⟨q,HQ⟩:∃ q,Hid (q=zs.getD k ([],0)):=⟨_,rfl⟩;rw [<-HQ.out] at c1 hix0 HT hno hyw hxl;obtain ⟨x,y⟩:=q;simp only at c1 hix0 HT hno hyw hxl;have hix:=hix0.below hbq;obtain ⟨ra,rn,rc,rfl⟩:=hix.shape;have g0:=(hbq.cell (p:=⟨b,off+k*2,none⟩) hbw).trans c0;have g1:=(hbq.cell (p:=⟨b,off+k*2+1,none⟩) hbw).trans c1;have hbr:b<wr.heap.size:=Nat.lt_of_lt_of_le hbw hbq.size;have hml:(q2K cs (zs.take k)).length<=100:=by rw [z4N,List.length_take]; omega
      have hcl:cs.length<=6:=by rw [<-HM.out]; omega
      have hcl1:1<=cs.length:=by rw [<-HM.out]; omega
      clear c0 c1 hix0 hcell;go_wp2_with fail;refine (k4F _ _ cs x _ (HU1.out.below hbq) hix hcl1 hcl).mono ?_;rintro e w2 ⟨v2,rfl,O2,hk2⟩;have g1':=q1N (p:=⟨b,off+k*2+1,none⟩) hk2 hbr g1;clear hix g0 g1;cases ht:k1U cs x with
      | false=>
       obtain ⟨hd,hos⟩:=HNOT.out (hno ht);have HK:Hid (Below w.heap.size w w2):=HB1.out.trans ((hbq.mono hsz1).trans (hk2.mono (by have:=hbq.size; omega)));subst hd hos;clear hno ht HT HZ HW HA hbq hk2 O2 g1';go_wp2;go_ret2;exact ⟨_,rfl,(z1T w2).wide HK.out.size (Nat.le_refl _) (Nat.le_refl _),z1D HK.out (z1C _)⟩
      | true=>
       have HA2:Hid (∀ j,j<k+1->k1U cs (zs.getD j ([],0)).1=true):=fun j hj=>by
        rcases Nat.lt_succ_iff_lt_or_eq.1 hj with h | h
        ·
         exact HA.out j h
        ·
         rw [h,<-HQ.out]; exact ht
       rw [ht] at O2;simp only [if_true] at O2;obtain ⟨xr,HXR⟩:∃ xr,Hid (xr=v2R cs x):=⟨_,rfl⟩;have hxr:xr.length<=6:=by rw [HXR.out]; unfold v2R; rw [List.length_map]; exact hcl
       rw [<-HXR.out] at O2 HT;have hszw:=hbq.size;have hszk:=hk2.size;have ZB:=(HZ.out.keep' hk2).wide (Nat.le_refl _) hk2.size (Nat.le_refl _);have hal:=add_len (q2K cs (zs.take k)) [];have hwz:∀ j,j<(j1L [] (q2K cs (zs.take k))).length->-4611686018427387904<=((j1L [] (q2K cs (zs.take k))).getD j ([],0)).2/\((j1L [] (q2K cs (zs.take k))).getD j ([],0)).2<=4611686018427387903:=fun j hj=>by
        have t1:=z3B (B:=0) (C:=10000) (by omega) (by omega) (q2K cs (zs.take k)) (a:=[]) (k:=0) (by omega) (fun p hp=>by simp at hp) (fun z hz=>map_in (cs:=cs) HOK.out z (by
         obtain ⟨p,hp,e⟩:=List.mem_map.1 hz
         exact List.mem_map.2 ⟨p,List.mem_of_mem_take hp,e⟩)) _ (x1O hj)
        have t2:(((q2K cs (zs.take k)).length:Nat):Int)<=100:=by omega
        omega
       have hal':(j1L [] (q2K cs (zs.take k))).length<=100:=by
        rw [List.length_nil,Nat.zero_add] at hal;omega
       have HKW:Hid (Below w1.heap.size w1 w2):=hbq.trans (hk2.mono hszw);obtain ⟨acc,HACC⟩:∃ acc,Hid (acc=j1L [] (q2K cs (zs.take k))):=⟨_,rfl⟩;rw [<-HACC.out] at ZB hwz hal';have hri:=O2.ints;clear hno ht HZ HW HA hbq hk2 O2 hal;go_wp2_with fail;refine (k1Q _ w1.heap.size w2.heap.size acc _ xr y _ ZB (by omega) hri (by omega) (by omega) hwz (by omega)).mono ?_;rintro e w3 ⟨v3,rfl,Z3,O3⟩;have HZ3:Hid (z1V w3 w1.heap.size w3.heap.size v3 (j1L [] (q2K cs (zs.take (k+1))))):=by rw [Hid,HT.out,x3Q,<-HACC.out]; exact Z3
       have HK:Hid (Below w1.heap.size w1 w3):=O3.below HKW.out (Nat.le_refl _) (by omega);clear Z3 O3 ZB hri HKW hwz g1';go_wp2;go_roundw
       case rel=>exact ⟨k+1,by omega,by go_num,HZ3.out,HK.out,HA2.out⟩
       case measure=>simp [intOf]; omega
     ·
      obtain rfl:k=n:=by omega
      have hZ:=HZ.out;rw [HN.out,List.take_length] at hZ;obtain ⟨hd,hos⟩:=HEND.out (q6I HOK.out (by rw [<-HM.out]; exact hlen) (fun j hj=>HA.out j (by rw [HN.out]; exact hj)));have hbq:=HW.out;have hsq:=hbq.size;clear hcell;go_wp2_with fail;refine (k1H _ (j1L [] (q2K cs zs)) _ _ _ hZ hsq).mono ?_;rw [<-hos,<-hd];rintro e w3 ⟨v3,rfl,Z3,hb3⟩;have HK:Hid (Below w.heap.size w w3):=z1D (HB1.out.trans (hbq.mono hsz1)) hb3;have R:Hid (z1V w3 w.heap.size w3.heap.size v3 os):=Z3.wide hsz1 (Nat.le_refl _) (Nat.le_refl _);clear hZ Z3 hb3 hd hos;go_wp2;go_ret2;exact ⟨_,rfl,R.out,HK.out⟩
  ·
   obtain ⟨e0,e1⟩:=x2F (cs:=cs) (zs:=zs) (by
    have:decide (1<=cs.length/\cs.length<=6)=false:=by rw [<-HM.out]; simpa using hlen
    unfold k1W
    rw [this,Bool.and_false,Bool.false_and])
   rw [e0,e1];by_cases h1:m<1
   ·
    have h1i:(m:Int)<1:=by omega
    go_enter Tryz.func64,Tryz.ntmps64;go_wp2_with fail;refine (z1M v zs _ h).mono ?_;rw [hok];rintro e w1 ⟨rfl,hd1⟩;have HB1:Hid (Below w.heap.size w w1):=hd1.below;clear h hd1 e0 e1;go_wp2;go_ret2;exact ⟨_,rfl,(z1T w1).wide HB1.out.size (Nat.le_refl _) (Nat.le_refl _),z1D HB1.out (z1C _)⟩
   ·
    have h1i:¬ ((m:Int)<1):=by omega
    have h6i:(m:Int) > 6:=by omega
    go_enter Tryz.func64,Tryz.ntmps64;go_wp2_with fail;refine (z1M v zs _ h).mono ?_;rw [hok];rintro e w1 ⟨rfl,hd1⟩;have HB1:Hid (Below w.heap.size w w1):=hd1.below;clear h hd1 e0 e1;go_wp2;go_ret2;exact ⟨_,rfl,(z1T w1).wide HB1.out.size (Nat.le_refl _) (Nat.le_refl _),z1D HB1.out (z1C _)⟩
def k3L (l:List Rw) (y:Nat) (c:Int):List Rw:=l.filter fun r=>decide (r.2.1.getD y 0=c)
theorem its_grp (l:List Rw) (y:Nat) (c:Int):its (k3L l y c)=v1E (its l) y c:=by
 unfold k3L v1E its;rw [List.filter_map];rfl
theorem j6G {l:List Rw} (y:Nat) {k:Nat} (hk:k<l.length):(fun c=>k3L (l.take (k+1)) y c)=fun d=>if d=(l.getD k (vn,([],0))).2.1.getD y 0 then k3L (l.take k) y ((l.getD k (vn,([],0))).2.1.getD y 0)++[l.getD k (vn,([],0))] else k3L (l.take k) y d:=by
 funext d;have e:l.getD k (vn,([],0))=l[k]:=by simp [List.getD,hk]
 rw [e];unfold k3L;rw [List.take_succ_eq_append_getElem hk,List.filter_append,List.filter_cons,List.filter_nil];by_cases h:d=l[k].2.1.getD y 0
 ·
  rw [if_pos h,if_pos (by simp [h]),h]
 ·
  rw [if_neg h,if_neg (by simpa using fun e=>h e.symm),List.append_nil]
theorem j6H (l:List Rw) (y:Nat) (c:Int):(k3L l y c).length<=l.length:=List.length_filter_le _ _
theorem mapType:Tryz.prog.underlying 110=some (.map 3 35):=Tryz.underlying110
theorem row_at {w:World} {v:Value} {xs:List Int} (h:z1E w v xs) {j:Nat} (hj:j<xs.length):∃ b off cap,v = .slice (some ⟨b,off,none⟩) xs.length cap/\b<w.heap.size/\w.cell? ⟨b,off+j,none⟩=some (.int .i64 (xs.getD j 0)):=by
 obtain ⟨_,a,cap,rfl,_,hc⟩:=h;obtain ⟨b,off,rfl,hb,hcell⟩:=hc (fun e=>by rw [e] at hj; simp at hj);exact ⟨b,off,cap,rfl,hb,hcell j hj⟩
theorem j1F {w w':World} {row:Option Nat} {p:Addr} {u:Value} (hg:w.grownBy w' row) (hp:p.block<w.heap.size) (hne:some p.block≠row) (hv:w.cell? p=some u):w'.cell? p=some u:=(World.cell?_of_block (hg.block p.block hp hne)).trans hv
theorem j5J.put {w w1:World} {t:TypeId} {mb lo n:Nat} {G:Int->List Rw} (h:j5J w t mb lo n G) (hb1:Below w.heap.size w w1) {c:Int} (hc : -9223372036854775808<=c/\c<=9223372036854775807) (hn:n<maxLen) (xv:Value) (x:List Int) (y:Int) (hs:∃ a n c,xv=Value.slice a n c) (hlo:lo<=w.heap.size) (hlen:(G c).length<=1048576) :
  ∃ v,(∀ w',w.grownBy w' none->(Instr.lookup t (.map (some mb)) (.int .i64 c) false).run Tryz.prog w' = .ok v w')/\(∀ g,v.ownBlock=some g->lo<=g/\g<w.heap.size) ∧
   (w1.alloc (.cells #[xv,.int .i64 y] 47)).ownsRow lo 47 2 v (prs (G c)).length (z1Z (prs (G c)))/\z1Y (w1.alloc (.cells #[xv,.int .i64 y] 47)) (.slice (some ⟨w1.heap.size,0,none⟩) 1 1) [(xv,y)] ∧
   ∀ v' w',w'.ownsRow lo 47 2 v' (prs (G c)++[(xv,y)]).length (z1Z (prs (G c)++[(xv,y)]))->(w1.alloc (.cells #[xv,.int .i64 y] 47)).grownBy w' v.ownBlock->(v'.ownBlock=v.ownBlock\/v'.ownBlock=some (w1.alloc (.cells #[xv,.int .i64 y] 47)).heap.size) →
    ∃ w2,(Instr.mapUpdate t (.map (some mb)) (.int .i64 c) v').run Tryz.prog w' = .ok () w2/\j5J w2 t mb lo (n+1) (fun d=>if d=c then G c++[(xv,(x,y))] else G d)/\Below mb w1 w2/\w'.grownBy w2 (some mb):=by
 have hmb:mb<lo:=by obtain ⟨_,_,_,_,_,_,h5,_⟩:=h; exact h5
 obtain ⟨v,hrun,S,back⟩:=h.look hc hn;have hga:w.grownBy (w1.alloc (.cells #[xv,.int .i64 y] 47)) v.ownBlock:=z1G ⟨hb1.os,hb1.tape,hb1.output,hb1.size,fun k hk _=>hb1.block k hk⟩ (World.grownBy_alloc _ _ _);obtain ⟨r1,r2,r3⟩:=x1N (xv:=xv) y (S.keep' hb1) hs (Nat.le_trans hlo hb1.size) (by omega);refine ⟨v,hrun,fun g hg=>S.1.lt g hg,r1,r2,fun v' w' hown hg hat=> ?_⟩;obtain ⟨S3,B3⟩:=r3 v' w' x hown hg;have hloc:v'.ownBlock=v.ownBlock\/∃ g,v'.ownBlock=some g/\w.heap.size<=g:=by
  rcases hat with e | e
  ·
   exact .inl e
  ·
   exact .inr ⟨_,e,by have:=hb1.size; simp; omega⟩
 obtain ⟨w2,hr2,G2,hg2⟩:=back w' v' (G c++[(xv,(x,y))]) (z1G hga hg) S3 hloc;refine ⟨w2,hr2,G2,?_,hg2⟩;exact (B3.mono (by omega)).trans ⟨hg2.os,hg2.tape,hg2.output,hg2.size,fun k hk=>hg2.block k (by have:=B3.size; have:=hb1.size; omega) (fun e=>by simp at e; omega)⟩
theorem k4Q (v u:Value) (a b:List It) (x y:Nat) (w:World) (h:z1I w v a) (h2:z1I w u b) (hpa:0<a.length) (hpb:0<b.length) (ha:a.length<=100) (hb:b.length<=100) (hx:∀ k,k<a.length->x<(a.getD k ([],0)).1.length) (hy:∀ k,k<b.length->y<(b.getD k ([],0)).1.length)
  (hla:∀ p∈a,p.1.length<=6/\-10000<=p.2/\p.2<=10000) (hlb:∀ p∈b,p.1.length<=6/\-10000<=p.2/\p.2<=10000) (hca:∀ k,k<a.length->-9223372036854775808<=(a.getD k ([],0)).1.getD x 0/\(a.getD k ([],0)).1.getD x 0<=9223372036854775807) (hcb:∀ k,k<b.length->-9223372036854775808<=(b.getD k ([],0)).1.getD y 0/\(b.getD k ([],0)).1.getD y 0<=9223372036854775807) :
  Calls Tryz.prog 33 #[v,u,.int .i64 x,.int .i64 y] w fun e w'=> ∃ v',e = .returned v'/\z1V w' w.heap.size w'.heap.size v' (j1H a b x y)/\Below w.heap.size w w':=by
 obtain ⟨i0,hi0,hz0,hz1,hz2⟩:=info_parts infoItem;obtain ⟨la,ea,PA,RA⟩:=h.opened;obtain ⟨lb,eb,PB,RB⟩:=h2.opened;have hna:la.length=a.length:=by rw [ea,q1E]
 have hnb:lb.length=b.length:=by rw [eb,q1E]
 obtain ⟨hpla,hpsa,aa,ac,rfl,_,hca'⟩:=PA;obtain ⟨hplb,hpsb,ba,bc,rfl,_,hcb'⟩:=PB;rw [z1H,hna] at hpla hca' ⊢;rw [z1H,hnb] at hplb hcb' ⊢;obtain ⟨ab,aoff,rfl,habw,hacell⟩:=hca' (by intro e; have h5:=z1H la; rw [e] at h5; simp at h5; omega);obtain ⟨bb,boff,rfl,hbbw,hbcell⟩:=hcb' (by intro e; have h5:=z1H lb; rw [e] at h5; simp at h5; omega);obtain ⟨n,hn⟩:∃ n,n=a.length:=⟨_,rfl⟩;obtain ⟨m,hm⟩:∃ m,m=b.length:=⟨_,rfl⟩;rw [<-hn] at hpa ha hx hca hna hpla hacell ⊢;rw [<-hm] at hpb hb hy hcb hnb hplb hbcell ⊢;have HN:Hid (n=a.length):=hn;have HM:Hid (m=b.length):=hm;have HA:Hid (a=its la):=ea;have HB:Hid (b=its lb):=eb;have hnf:((n:Int)==0)=false:=by simp; omega
 have hmf:((m:Int)==0)=false:=by simp; omega
 have HMADE:Hid (j5J (w.alloc (.map #[] 0)) 110 w.heap.size (w.heap.size+1) 0 (fun c=>k3L (lb.take 0) y c)):=j6L w _ mapType;clear hn hm h h2 hca' hcb' hpsa hpsb;have hmm:=@run_makeMap Tryz.prog;go_enter Tryz.func33,Tryz.ntmps33;go_wp2;clear hmm;go_loopw [28] (fun i wr=> ∃ k:Nat,k<=m/\i = .int .i64 k/\Hid (j5J wr 110 w.heap.size (w.heap.size+1) k (fun c=>k3L (lb.take k) y c))/\Hid (Below w.heap.size w wr)/\w.heap.size+1<=wr.heap.size) (fun i _=>m - (intOf i).toNat)
 case atStart=>exact ⟨0,Nat.zero_le _,rfl,HMADE.out,z1C _,by simp⟩
 case round=>
  obtain ⟨k,hk,rfl,HG,HW,hws⟩:=hrel;clear HMADE;by_cases hlt:k<m
  ·
   have hk':k<lb.length:=by omega
   have HBW:=HW.out;obtain ⟨c0,c1⟩:=hbcell k hlt;rw [x2V hk'] at c0 c1;have e1:b.getD k ([],0)=(lb.getD k (vn,([],0))).2:=by have:=q3S hk'; rw [<-HB.out] at this; exact this
   have hyk:=hy k hlt;have hck:=hcb k hlt;rw [e1] at hyk hck;have hix0:=RB (lb.getD k (vn,([],0))) (by simp [List.getD,hk']);have HT:Hid _:=j6G (l:=lb) y hk';obtain ⟨r,HR⟩:∃ r,Hid (r=lb.getD k (vn,([],0))):=⟨_,rfl⟩;rw [<-HR.out] at c0 c1 hyk hck hix0 HT;obtain ⟨rv,rx,ry⟩:=r;simp only at c0 c1 hyk hck hix0 HT;have hix:=hix0.below HBW;obtain ⟨rb,roff,rcap,rfl,hrbw,hcy0⟩:=row_at hix0 hyk;have hcy:=(HBW.cell (p:=⟨rb,roff+y,none⟩) hrbw).trans hcy0;have hrb:rb<wr.heap.size:=Nat.lt_of_lt_of_le hrbw HBW.size;have g0:=(HBW.cell (p:=⟨bb,boff+k*2,none⟩) hbbw).trans c0;have g1:=(HBW.cell (p:=⟨bb,boff+k*2+1,none⟩) hbbw).trans c1;have hbr:bb<wr.heap.size:=Nat.lt_of_lt_of_le hbbw HBW.size;obtain ⟨wa,hwa⟩:∃ wa,wa=wr.alloc (.cells #[.slice (some ⟨rb,roff,none⟩) rx.length rcap,.int .i64 ry] 47):=⟨_,rfl⟩;have hba:Below wr.heap.size wr wa:=by rw [hwa]; exact z1C _
   have hwl:wr.heap.size<wa.heap.size:=by rw [hwa]; simp
   have t0:wa.cell? ⟨wr.heap.size,0,none⟩=some (.slice (some ⟨rb,roff,none⟩) rx.length rcap):=by rw [hwa]; simp [go_sem]
   have t1:wa.cell? ⟨wr.heap.size,1,none⟩=some (.int .i64 ry):=by rw [hwa]; simp [go_sem]
   have hcy':=q1N (p:=⟨rb,roff+y,none⟩) hba hrb hcy;have hrba:rb<wa.heap.size:=by omega
   have hbd:Below wr.heap.size wr wa.drew:=hba.drew;have hgl:(k3L (lb.take k) y (rx.getD y 0)).length<=100:=by have:=j6H (lb.take k) y (rx.getD y 0); rw [List.length_take] at this; omega
   obtain ⟨vc,hlook,hvb,hspW,hprW,hback⟩:=HG.out.put hbd hck (by unfold maxLen; omega) (.slice (some ⟨rb,roff,none⟩) rx.length rcap) rx ry ⟨_,_,_,rfl⟩ hws (by omega);have hpl:(prs (k3L (lb.take k) y (rx.getD y 0))).length<=100:=by rw [z1H]; exact hgl
   have hl1:=hlook wa.drew ⟨hbd.os,hbd.tape,hbd.output,hbd.size,fun k hk _=>hbd.block k hk⟩;have hl2:(Instr.lookup 110 (.map (some w.heap.size)) (.int .i64 (rx.getD y 0)) false).run Tryz.prog (wa.alloc (.cells #[.slice (some ⟨rb,roff,none⟩) rx.length rcap,.int .i64 ry] 47)).drew = .ok vc (wa.alloc (.cells #[.slice (some ⟨rb,roff,none⟩) rx.length rcap,.int .i64 ry] 47)).drew:=hlook _ (z1G ⟨hbd.os,hbd.tape,hbd.output,hbd.size,fun k hk _=>hbd.block k hk⟩ (World.grownBy_alloc wa.drew _ _));clear hlook;have hal:Below wa.drew.heap.size wa.drew (wa.drew.alloc (.cells #[.slice (some ⟨rb,roff,none⟩) rx.length rcap,.int .i64 ry] 47)):=z1C _;have u0:=q1N (p:=⟨wr.heap.size,0,none⟩) hal hwl t0;have u1:=q1N (p:=⟨rb,roff+y,none⟩) hal hrba hcy';have u2:=q1N (p:=⟨wr.heap.size,1,none⟩) hal hwl t1;have hs0:wr.heap.size<(wa.drew.alloc (.cells #[.slice (some ⟨rb,roff,none⟩) rx.length rcap,.int .i64 ry] 47)).heap.size:=Nat.lt_of_lt_of_le hwl hal.size;have hs1:rb<(wa.drew.alloc (.cells #[.slice (some ⟨rb,roff,none⟩) rx.length rcap,.int .i64 ry] 47)).heap.size:=Nat.lt_of_lt_of_le hrba hal.size;have hne0:some wr.heap.size≠vc.ownBlock:=fun e=>by have:=hvb _ e.symm; omega
   have hne1:some rb≠vc.ownBlock:=fun e=>by have:=hvb _ e.symm; omega
   have HBA:Hid (Below w.heap.size w wa.drew):=(HBW.trans (hba.mono HBW.size)).drew;obtain ⟨G0,HG0⟩:∃ G0,Hid (G0=k3L (lb.take k) y (rx.getD y 0)):=⟨_,rfl⟩;rw [<-HG0.out] at hspW hback hpl HT;obtain ⟨cc,HCC⟩:∃ cc,Hid (cc=rx.getD y 0):=⟨_,rfl⟩;rw [<-HCC.out] at hcy hcy' hl1 hl2 hback HT u1;clear c0 c1 hix0 hix hbcell HG HW HBW hba hbd hgl hcy hal hvb;have Y0:wa.drew.cell? ⟨wr.heap.size,0,none⟩=some (.slice (some ⟨rb,roff,none⟩) rx.length rcap)/\wa.drew.cell? ⟨wr.heap.size,1,none⟩=some (.int .i64 ry)/\wa.drew.cell? ⟨rb,roff+y,none⟩=some (.int .i64 cc):=⟨t0,t1,hcy'⟩;have YB:(wa.drew.alloc (.cells #[.slice (some ⟨rb,roff,none⟩) rx.length rcap,.int .i64 ry] 47)).cell? ⟨wr.heap.size,0,none⟩=some (.slice (some ⟨rb,roff,none⟩) rx.length rcap)/\(wa.drew.alloc (.cells #[.slice (some ⟨rb,roff,none⟩) rx.length rcap,.int .i64 ry] 47)).cell? ⟨wr.heap.size,1,none⟩=some (.int .i64 ry)/\(wa.drew.alloc (.cells #[.slice (some ⟨rb,roff,none⟩) rx.length rcap,.int .i64 ry] 47)).cell? ⟨rb,roff+y,none⟩=some (.int .i64 cc):=⟨u0,u2,u1⟩;go_wp2;rw [<-hwa];clear hwa g0 g1;refine wp_region_held_drew (S:=(fun w'=>w'.cell? ⟨wr.heap.size,0,none⟩=some (.slice (some ⟨rb,roff,none⟩) rx.length rcap)/\w'.cell? ⟨wr.heap.size,1,none⟩=some (.int .i64 ry)/\w'.cell? ⟨rb,roff+y,none⟩=some (.int .i64 cc))) (by kernel_rfl) ?_ (fun hHeld=> ?_)
   ·
    (try dsimp only); exact Y0
   refine tk 0 ?_;simp only [Act.put,List.getElem_toArray,List.getElem_cons_zero,List.setIfInBounds_toArray,List.set_cons_zero,List.set_cons_succ];refine tk 1 ?_; go_simp;refine tk 2 ?_; go_simp;refine tk 3 ?_; go_simp;refine tk 4 ?_; go_simp;refine tk 5 ?_; go_simp;refine tk 6 ?_; go_simp;refine tk 7 ?_; go_simp;refine tk 8 ?_; go_simp;refine tk 9 ?_; go_simp;refine tk 10 ?_; go_simp;refine tk 11 ?_; go_simp;refine tk 13 ?_; go_simp;refine wpAnyH_ready (rs:=[12,14]) (by kernel_rfl) (by simp) ?_;refine AllReadyH.cons rfl (fun K hK=> ?_) (AllReadyH.cons rfl (fun K hK=> ?_) AllReadyH.nil)
   ·
    go_simp;refine hK.out _ _ ?_ (fun hHeld=> ?_)
    ·
     (try dsimp only); exact Y0
    clear hK K;try go_simp
    refine r1 14 (fun K hK=> ?_);go_simp;refine hK.out _ _ ?_ (fun hHeld=> ?_)
    ·
     (try dsimp only); exact YB
    clear hK K;try go_simp
    refine r1 15 (fun K hK=> ?_);refine q1L rfl (.tmp 44) (.tmp 46) 35 rfl (w.heap.size+1) 47 i0 Tryz.underlying35 hi0 hz0 hz1 hz2 vc (prs G0) (by simp [Act.eval]) hspW ⟨wa.heap.size,0,none⟩ 1 1 [(.slice (some ⟨rb,roff,none⟩) rx.length rcap,ry)] (by simp [Act.eval]) hprW (by simp; omega) (by simp; omega) ?_;intro v3 w3 hown3 hg3 hat3;have Y3:w3.cell? ⟨wr.heap.size,0,none⟩=some (.slice (some ⟨rb,roff,none⟩) rx.length rcap)/\w3.cell? ⟨wr.heap.size,1,none⟩=some (.int .i64 ry)/\w3.cell? ⟨rb,roff+y,none⟩=some (.int .i64 cc):=⟨j1F (p:=⟨wr.heap.size,0,none⟩) hg3 hs0 hne0 u0,j1F (p:=⟨wr.heap.size,1,none⟩) hg3 hs0 hne0 u2,j1F (p:=⟨rb,roff+y,none⟩) hg3 hs1 hne1 u1⟩;obtain ⟨w4,hrun4,G4,B4,hg4⟩:=hback v3 w3 hown3 hg3 hat3;have hs3:=hg3.size;have Y4:w4.cell? ⟨wr.heap.size,0,none⟩=some (.slice (some ⟨rb,roff,none⟩) rx.length rcap)/\w4.cell? ⟨wr.heap.size,1,none⟩=some (.int .i64 ry)/\w4.cell? ⟨rb,roff+y,none⟩=some (.int .i64 cc):=⟨j1F (p:=⟨wr.heap.size,0,none⟩) hg4 (Nat.lt_of_lt_of_le hs0 hs3) (fun e=>by simp at e; omega) Y3.1,j1F (p:=⟨wr.heap.size,1,none⟩) hg4 (Nat.lt_of_lt_of_le hs0 hs3) (fun e=>by simp at e; omega) Y3.2.1,j1F (p:=⟨rb,roff+y,none⟩) hg4 (Nat.lt_of_lt_of_le hs1 hs3) (fun e=>by simp at e; omega) Y3.2.2⟩;refine hK.out _ _ ?_ (fun hHeld=> ?_)
    ·
     (try dsimp only); exact Y3
    clear hK K;try go_simp
    refine r1 16 (fun K hK=> ?_);refine v2G rfl (.tmp 32) (.tmp 37) (.tmp 47) 110 rfl _ _ _ (by simp [Act.eval]) (by simp [Act.eval]) (by simp [Act.eval]) hrun4 ?_;refine hK.out _ _ ?_ (fun hHeld=> ?_)
    ·
     (try dsimp only); exact Y4
    clear hK K;try simp only [Act.put]
    refine dn ?_;have HK:Hid (Below w.heap.size w w4):=HBA.out.trans B4;have HG4:Hid (j5J w4 110 w.heap.size (w.heap.size+1) (k+1) (fun c=>k3L (lb.take (k+1)) y c)):=by
     show j5J _ _ _ _ _ _;rw [HT.out];exact G4
    have hs4:w.heap.size+1<=w4.heap.size:=by have h5:wa.heap.size<=w4.heap.size:=B4.size; omega
    clear hback hown3 hg3 hat3 hspW hprW B4 G4 hl1 hl2 hrun4 HBA t0 t1 Y0 YB Y3 Y4 hg4 u0 u1 u2;go_wp2;go_roundw
    case rel=>exact ⟨k+1,by omega,by go_num,HG4.out,HK.out,hs4⟩
    case measure=>simp [intOf]; omega
   ·
    go_simp;refine hK.out _ _ ?_ (fun hHeld=> ?_)
    ·
     (try dsimp only); exact YB
    clear hK K;try go_simp
    refine r1 12 (fun K hK=> ?_);go_simp;refine hK.out _ _ ?_ (fun hHeld=> ?_)
    ·
     (try dsimp only); exact YB
    clear hK K;try go_simp
    refine r1 15 (fun K hK=> ?_);refine q1L rfl (.tmp 44) (.tmp 46) 35 rfl (w.heap.size+1) 47 i0 Tryz.underlying35 hi0 hz0 hz1 hz2 vc (prs G0) (by simp [Act.eval]) hspW ⟨wa.heap.size,0,none⟩ 1 1 [(.slice (some ⟨rb,roff,none⟩) rx.length rcap,ry)] (by simp [Act.eval]) hprW (by simp; omega) (by simp; omega) ?_;intro v3 w3 hown3 hg3 hat3;have Y3:w3.cell? ⟨wr.heap.size,0,none⟩=some (.slice (some ⟨rb,roff,none⟩) rx.length rcap)/\w3.cell? ⟨wr.heap.size,1,none⟩=some (.int .i64 ry)/\w3.cell? ⟨rb,roff+y,none⟩=some (.int .i64 cc):=⟨j1F (p:=⟨wr.heap.size,0,none⟩) hg3 hs0 hne0 u0,j1F (p:=⟨wr.heap.size,1,none⟩) hg3 hs0 hne0 u2,j1F (p:=⟨rb,roff+y,none⟩) hg3 hs1 hne1 u1⟩;obtain ⟨w4,hrun4,G4,B4,hg4⟩:=hback v3 w3 hown3 hg3 hat3;have hs3:=hg3.size;have Y4:w4.cell? ⟨wr.heap.size,0,none⟩=some (.slice (some ⟨rb,roff,none⟩) rx.length rcap)/\w4.cell? ⟨wr.heap.size,1,none⟩=some (.int .i64 ry)/\w4.cell? ⟨rb,roff+y,none⟩=some (.int .i64 cc):=⟨j1F (p:=⟨wr.heap.size,0,none⟩) hg4 (Nat.lt_of_lt_of_le hs0 hs3) (fun e=>by simp at e; omega) Y3.1,j1F (p:=⟨wr.heap.size,1,none⟩) hg4 (Nat.lt_of_lt_of_le hs0 hs3) (fun e=>by simp at e; omega) Y3.2.1,j1F (p:=⟨rb,roff+y,none⟩) hg4 (Nat.lt_of_lt_of_le hs1 hs3) (fun e=>by simp at e; omega) Y3.2.2⟩;refine hK.out _ _ ?_ (fun hHeld=> ?_)
    ·
     (try dsimp only); exact Y3
    clear hK K;try go_simp
    refine r1 16 (fun K hK=> ?_);refine v2G rfl (.tmp 32) (.tmp 37) (.tmp 47) 110 rfl _ _ _ (by simp [Act.eval]) (by simp [Act.eval]) (by simp [Act.eval]) hrun4 ?_;refine hK.out _ _ ?_ (fun hHeld=> ?_)
    ·
     (try dsimp only); exact Y4
    clear hK K;try simp only [Act.put]
    refine dn ?_;have HK:Hid (Below w.heap.size w w4):=HBA.out.trans B4;have HG4:Hid (j5J w4 110 w.heap.size (w.heap.size+1) (k+1) (fun c=>k3L (lb.take (k+1)) y c)):=by
     show j5J _ _ _ _ _ _;rw [HT.out];exact G4
    have hs4:w.heap.size+1<=w4.heap.size:=by have h5:wa.heap.size<=w4.heap.size:=B4.size; omega
    clear hback hown3 hg3 hat3 hspW hprW B4 G4 hl1 hl2 hrun4 HBA t0 t1 Y0 YB Y3 Y4 hg4 u0 u1 u2;go_wp2;go_roundw
    case rel=>exact ⟨k+1,by omega,by go_num,HG4.out,HK.out,hs4⟩
    case measure=>simp [intOf]; omega
  ·
   obtain rfl:k=m:=by omega
   obtain ⟨w2,hw2⟩:∃ w2,w2=wr:=⟨_,rfl⟩;rw [<-hw2] at HG HW hws ⊢;have HG2:Hid (j5J w2 110 w.heap.size (w.heap.size+1) k (fun c=>k3L lb y c)):=by
    have:=HG.out;rw [<-hnb,List.take_length] at this;rw [<-hnb];exact this
   clear HG hw2 hbcell hcb hy;go_wp2;go_loopw [12,51] (fun s i wr=> ∃ (j:Nat),j<=n/\i = .int .i64 j/\Hid (z1V wr w2.heap.size wr.heap.size s (j1H (a.take j) b x y))/\Hid (Below w2.heap.size w2 wr)) (fun _ i _=>n - (intOf i).toNat)
   case atStart=>exact ⟨0,Nat.zero_le _,rfl,q1D _ _,Below.refl _ _⟩
   case round=>
    obtain ⟨j,hj,rfl,HZ,HW2⟩:=hrel;by_cases hltj:j<n
    ·
     have hj':j<la.length:=by omega
     have HBW:=HW2.out;have hww:Below w.heap.size w wr:=HW.out.trans (HBW.mono (by omega));obtain ⟨c0,c1⟩:=hacell j hltj;rw [x2V hj'] at c0 c1;have e1:a.getD j ([],0)=(la.getD j (vn,([],0))).2:=by have:=q3S hj'; rw [<-HA.out] at this; exact this
     have hxk:=hx j hltj;have hck:=hca j hltj;have hpin:=hla (a.getD j ([],0)) (by simp [List.getD,show j<a.length by rw [<-HN.out]; exact hltj]);have HT:Hid _:=k3G (a:=a) b x y (k:=j) (by rw [<-HN.out]; exact hltj);rw [e1] at hxk hck hpin HT;have hix0:=RA (la.getD j (vn,([],0))) (by simp [List.getD,hj']);obtain ⟨r,HR⟩:∃ r,Hid (r=la.getD j (vn,([],0))):=⟨_,rfl⟩;rw [<-HR.out] at c0 c1 hxk hck hpin hix0 HT;obtain ⟨pv,px,pw⟩:=r;simp only at c0 c1 hxk hck hpin hix0 HT;have hix:=hix0.below hww;obtain ⟨rb,roff,rcap,rfl,hrb,hcx⟩:=row_at hix hxk;have g0:=(hww.cell (p:=⟨ab,aoff+j*2,none⟩) habw).trans c0;have g1:=(hww.cell (p:=⟨ab,aoff+j*2+1,none⟩) habw).trans c1;have hbr:ab<wr.heap.size:=Nat.lt_of_lt_of_le habw hww.size;obtain ⟨wa,hwa⟩:∃ wa,wa=wr.alloc (.cells #[.slice (some ⟨rb,roff,none⟩) px.length rcap,.int .i64 pw] 47):=⟨_,rfl⟩;have hba:Below wr.heap.size wr wa:=by rw [hwa]; exact z1C _
     have hwl:wr.heap.size<wa.heap.size:=by rw [hwa]; simp
     have t0:wa.cell? ⟨wr.heap.size,0,none⟩=some (.slice (some ⟨rb,roff,none⟩) px.length rcap):=by rw [hwa]; simp [go_sem]
     have t1:wa.cell? ⟨wr.heap.size,1,none⟩=some (.int .i64 pw):=by rw [hwa]; simp [go_sem]
     have hcx':=q1N (p:=⟨rb,roff+x,none⟩) hba hrb hcx;have HIX:Hid (z1E w (.slice (some ⟨rb,roff,none⟩) px.length rcap) px):=hix0;have hb2a:Below w2.heap.size w2 wa:=HBW.trans (hba.mono HBW.size);obtain ⟨vc,hlook,SV,-⟩:=HG2.out.look hck (by unfold maxLen; omega);have hl1:=hlook wa ⟨hb2a.os,hb2a.tape,hb2a.output,hb2a.size,fun k hk _=>hb2a.block k hk⟩;have hsh:∃ va vcp,vc = .slice va (k3L lb y (px.getD x 0)).length vcp:=by
      rcases SV.1.2 with ⟨rfl,h0⟩ | ⟨g,cp,cu,rfl,_⟩
      ·
       rw [z1H] at h0;exact ⟨none,0,by rw [h0]⟩
      ·
       exact ⟨_,_,by rw [z1H]⟩
     obtain ⟨va,vcp,rfl⟩:=hsh;have hgl:(k3L lb y (px.getD x 0)).length<=100:=by have:=j6H lb y (px.getD x 0); omega
     have HITS:Hid (its (k3L lb y (px.getD x 0))=v1E b y (px.getD x 0)):=by rw [Hid,its_grp,HB.out]
     have HROW:Hid (∀ q∈k3L lb y (px.getD x 0),z1E w q.1 q.2.1/\q.2.1.length<=6/\-10000<=q.2.2/\q.2.2<=10000):=fun q hq=>by
      have hq':=(List.mem_filter.1 hq).1
      exact ⟨RB q hq',hlb q.2 (by rw [HB.out]; exact List.mem_map.2 ⟨q,hq',rfl⟩)⟩
     obtain ⟨cc,HCC⟩:∃ cc,Hid (cc=px.getD x 0):=⟨_,rfl⟩;rw [<-HCC.out] at hcx hcx' hl1 SV hgl HITS HROW HT;obtain ⟨G0,HG0⟩:∃ G0,Hid (G0=k3L lb y cc):=⟨_,rfl⟩;rw [<-HG0.out] at hl1 SV hgl HITS HROW;obtain ⟨L,hL⟩:∃ L,L=G0.length:=⟨_,rfl⟩;have HL:Hid (L=G0.length):=hL;rw [<-hL] at hl1 SV hgl;have HZA:Hid (z1V wa w2.heap.size wa.heap.size u12 (j1H (a.take j) b x y++v1F (px,pw) ((v1E b y cc).take 0))):=by
      have:=(HZ.out.keep' hba).wide (Nat.le_refl _) hba.size (Nat.le_refl _);simpa [v1F,Hid] using this
     have hjl:(j1H (a.take j) b x y).length<=10000:=by
      have h5:=k2L b x y (a.take j);have h6:(a.take j).length*b.length<=100*100:=Nat.mul_le_mul (by rw [List.length_take]; omega) (by rw [<-HM.out]; omega);omega
     have hl1':(Instr.lookup 110 (.map (some w.heap.size)) (.int .i64 cc) false).run Tryz.prog (wr.alloc (.cells #[.slice (some ⟨rb,roff,none⟩) px.length rcap,.int .i64 pw] 47)) = .ok (.slice va L vcp) (wr.alloc (.cells #[.slice (some ⟨rb,roff,none⟩) px.length rcap,.int .i64 pw] 47)):=by rw [<-hwa]; exact hl1
     have HNE:Hid (some wr.heap.size≠u12.ownBlock):=fun e=>by
      obtain ⟨ps,_,hsp,_⟩:=HZ.out
      have:=hsp.2.1 _ e.symm
      omega
     have hw2a:w2.heap.size<=wa.heap.size:=by have:=HBW.size; omega
     have HWA2:Hid (Below w2.heap.size w2 wa):=hb2a;clear hL c0 c1 hix0 hix hacell hx hca HZ HW2 HBW hba hww hlook hb2a;go_wp2;rw [<-hwa];clear hwa g0 g1 hl1' hl1 hcx hcx';obtain ⟨fb,hfb⟩:∃ fb,fb=wr.heap.size:=⟨_,rfl⟩;rw [<-hfb] at t0 t1 hwl HNE ⊢;clear hfb;go_loopw [12,63] (fun s i wr=> ∃ (l:Nat),l<=L/\i = .int .i64 l/\Hid (z1V wr w2.heap.size wr.heap.size s (j1H (a.take j) b x y++v1F (px,pw) ((v1E b y cc).take l)))/\Hid (Below w2.heap.size w2 wr)/\Hid (some fb≠s.ownBlock)/\Hid (fb<wr.heap.size/\wr.cell? ⟨fb,0,none⟩=some (.slice (some ⟨rb,roff,none⟩) px.length rcap)/\wr.cell? ⟨fb,1,none⟩=some (.int .i64 pw))) (fun _ i _=>L - (intOf i).toNat)
     case atStart=>exact ⟨0,Nat.zero_le _,rfl,HZA.out,HWA2.out,HNE.out,⟨hwl,t0,t1⟩⟩
     case round=>
      obtain ⟨l,hl,rfl,HZQ,HWQ,HSN,HFC⟩:=hrel;clear HZA HNE t0 t1 hwl;by_cases hltl:l<L
      ·
       have hl':l<G0.length:=by rw [<-HL.out]; exact hltl
       obtain ⟨gv,gcp,hve,hgv1,hgv2,-,-⟩:=SV.shape (by rw [z1H]; omega);simp only [Value.slice.injEq] at hve;obtain ⟨rfl,-,rfl⟩:=hve;have hbq:=HWQ.out;have d0:=(hbq.cell (p:=⟨gv,l*2,none⟩) hgv2).trans (SV.cell0 (j:=l) (by rw [z1H]; exact hl'));have d1:=(hbq.cell (p:=⟨gv,l*2+1,none⟩) hgv2).trans (SV.cell1 (j:=l) (by rw [z1H]; exact hl'));rw [x2V hl'] at d0 d1;obtain ⟨hqi0,hq6,hqw1,hqw2⟩:=HROW.out (G0.getD l (vn,([],0))) (by simp [List.getD,hl']);have hmg:(v1E b y cc).getD l ([],0)=(G0.getD l (vn,([],0))).2:=by rw [<-HITS.out]; exact q3S hl'
       have HTW:Hid _:=j5N (p:=(px,pw)) (qs:=v1E b y cc) (j:=l) (by rw [<-HITS.out,q1E]; exact hl');rw [hmg] at HTW;obtain ⟨q,HQ⟩:∃ q,Hid (q=G0.getD l (vn,([],0))):=⟨_,rfl⟩;rw [<-HQ.out] at d0 d1 hqi0 hq6 hqw1 hqw2 HTW;obtain ⟨qv,qx,qw⟩:=q;simp only at d0 d1 hqi0 hq6 hqw1 hqw2 HTW;have hwq:Below w.heap.size w wr:=HW.out.trans (hbq.mono (by omega));have hqi:=hqi0.below hwq;obtain ⟨qa,qn,qc,rfl⟩:=hqi.shape;obtain ⟨hfl,f0,f1⟩:=HFC.out;have hgq:gv<wr.heap.size:=Nat.lt_of_lt_of_le hgv2 hbq.size;have hixq:=HIX.out.below hwq;obtain ⟨wb,hwb⟩:∃ wb,wb=wr.alloc (.cells #[.slice qa qn qc,.int .i64 qw] 47):=⟨_,rfl⟩;have hbb2:Below wr.heap.size wr wb:=by rw [hwb]; exact z1C _
       have hsl:wr.heap.size<wb.heap.size:=by rw [hwb]; simp
       have s0:wb.cell? ⟨wr.heap.size,0,none⟩=some (.slice qa qn qc):=by rw [hwb]; simp [go_sem]
       have s1:wb.cell? ⟨wr.heap.size,1,none⟩=some (.int .i64 qw):=by rw [hwb]; simp [go_sem]
       have f0b:=q1N (p:=⟨fb,0,none⟩) hbb2 hfl f0;have f1b:=q1N (p:=⟨fb,1,none⟩) hbb2 hfl f1;have hflb:fb<wb.heap.size:=by omega
       have i1:z1E wb.drew (.slice (some ⟨rb,roff,none⟩) px.length rcap) px:=(hixq.below hbb2).below (Below.drew (Below.refl _ _));have i2:z1E wb.drew (.slice qa qn qc) qx:=(hqi.below hbb2).below (Below.drew (Below.refl _ _));have ZB:z1V wb.drew w2.heap.size wr.heap.size u12 (j1H (a.take j) b x y++v1F (px,pw) ((v1E b y cc).take l)):=(HZQ.out.keep' hbb2).keep' (Below.drew (Below.refl _ _));have hmul:=z3W (A:=10000) (B:=10000) (a:=pw) (b:=qw) hpin.2 ⟨hqw1,hqw2⟩ (by omega) (by omega);obtain ⟨pq,HPQ⟩:∃ pq,Hid (pq=pw*qw):=⟨_,rfl⟩;have hwrap:IntKind.i64.wrap (pw*qw)=pq:=by rw [HPQ.out,IntKind.wrap_i64]; omega
       have hacl:(j1H (a.take j) b x y++v1F (px,pw) ((v1E b y cc).take l)).length<=10100:=by rw [List.length_append,j3A,List.length_take]; omega
       have hne1:some fb≠u12.ownBlock:=HSN.out;have hne2:some wr.heap.size≠u12.ownBlock:=fun e=>by
        obtain ⟨ps,_,hsp,_⟩:=HZQ.out
        have:=hsp.2.1 _ e.symm
        omega
       have HBB:Hid (Below w2.heap.size w2 wb.drew):=(hbq.trans (hbb2.mono hbq.size)).drew;have hw2b:w2.heap.size<=wr.heap.size:=by have:=hbq.size; omega
       have Y0:wb.drew.cell? ⟨fb,0,none⟩=some (.slice (some ⟨rb,roff,none⟩) px.length rcap)/\wb.drew.cell? ⟨fb,1,none⟩=some (.int .i64 pw)/\wb.drew.cell? ⟨wr.heap.size,0,none⟩=some (.slice qa qn qc)/\wb.drew.cell? ⟨wr.heap.size,1,none⟩=some (.int .i64 qw):=⟨f0b,f1b,s0,s1⟩;obtain ⟨acc,HACC⟩:∃ acc,Hid (acc=j1H (a.take j) b x y++v1F (px,pw) ((v1E b y cc).take l)):=⟨_,rfl⟩;rw [<-HACC.out] at ZB hacl;rw [<-HPQ.out] at HTW;have hjn:px.length+qx.length<=8796093022208:=by omega
       clear hqi0 hqi hixq hmg HZQ HSN HWQ hbq hbb2 s0 s1 f0b f1b hmul hwq HFC;go_wp2;rw [<-hwb];clear hwb d0 d1 f0 f1;refine wp_region_held_drew (S:=(fun w'=>w'.cell? ⟨fb,0,none⟩=some (.slice (some ⟨rb,roff,none⟩) px.length rcap)/\w'.cell? ⟨fb,1,none⟩=some (.int .i64 pw)/\w'.cell? ⟨wr.heap.size,0,none⟩=some (.slice qa qn qc)/\w'.cell? ⟨wr.heap.size,1,none⟩=some (.int .i64 qw))) (by kernel_rfl) ?_ (fun hHeld=> ?_)
       ·
        (try dsimp only); exact Y0
       refine tk 0 ?_;simp only [Act.put,List.getElem_toArray,List.getElem_cons_zero,List.setIfInBounds_toArray,List.set_cons_zero,List.set_cons_succ];refine tk 1 ?_; go_simp;refine tk 2 ?_; go_simp;refine tk 3 ?_; go_simp;refine tk 4 ?_; go_simp;refine tk 6 ?_; go_simp;refine tk 7 ?_; go_simp;refine tk 8 ?_; go_simp;refine tk 9 ?_; go_simp;refine tk 10 ?_; go_simp;refine r1 5 (fun K hK=> ?_);go_simp;(go_at_call 77; refine (x3D _ _ px qx _ i1 i2 hjn).mono ?_; rintro e w3 ⟨v3,rfl,O3,hb3,-⟩);have hk3:Below wb.heap.size wb w3:=(Below.drew (Below.refl _ wb)).trans hb3;obtain ⟨va3,vn3,vc3,rfl⟩:=O3.ints.shape;have Y3:w3.cell? ⟨fb,0,none⟩=some (.slice (some ⟨rb,roff,none⟩) px.length rcap)/\w3.cell? ⟨fb,1,none⟩=some (.int .i64 pw)/\w3.cell? ⟨wr.heap.size,0,none⟩=some (.slice qa qn qc)/\w3.cell? ⟨wr.heap.size,1,none⟩=some (.int .i64 qw):=⟨q1N (p:=⟨fb,0,none⟩) hk3 hflb Y0.1,q1N (p:=⟨fb,1,none⟩) hk3 hflb Y0.2.1,q1N (p:=⟨wr.heap.size,0,none⟩) hk3 hsl Y0.2.2.1,q1N (p:=⟨wr.heap.size,1,none⟩) hk3 hsl Y0.2.2.2⟩;have hs3:wb.heap.size<=w3.heap.size:=hk3.size;obtain ⟨ps,hpsl,hspW,hprW,hfin⟩:=(ZB.keep' hb3).ready pq O3 (by (show _<=wb.heap.size); omega) (by (show _<=wb.heap.size); omega) (by omega) (by omega);have hpl2:ps.length<=1048576:=by omega
       have hf3:fb<w3.heap.size:=by omega
       have hq3:wr.heap.size<w3.heap.size:=by omega
       have hal:Below w3.heap.size w3 (w3.alloc (.cells #[.slice va3 vn3 vc3,.int .i64 pq] 47)):=z1C _;have Y5:(w3.alloc (.cells #[.slice va3 vn3 vc3,.int .i64 pq] 47)).cell? ⟨fb,0,none⟩=some (.slice (some ⟨rb,roff,none⟩) px.length rcap)/\(w3.alloc (.cells #[.slice va3 vn3 vc3,.int .i64 pq] 47)).cell? ⟨fb,1,none⟩=some (.int .i64 pw)/\(w3.alloc (.cells #[.slice va3 vn3 vc3,.int .i64 pq] 47)).cell? ⟨wr.heap.size,0,none⟩=some (.slice qa qn qc)/\(w3.alloc (.cells #[.slice va3 vn3 vc3,.int .i64 pq] 47)).cell? ⟨wr.heap.size,1,none⟩=some (.int .i64 qw):=⟨q1N (p:=⟨fb,0,none⟩) hal hf3 Y3.1,q1N (p:=⟨fb,1,none⟩) hal hf3 Y3.2.1,q1N (p:=⟨wr.heap.size,0,none⟩) hal hq3 Y3.2.2.1,q1N (p:=⟨wr.heap.size,1,none⟩) hal hq3 Y3.2.2.2⟩;have hf4:=Nat.lt_of_lt_of_le hf3 hal.size;have hq4:=Nat.lt_of_lt_of_le hq3 hal.size;refine hK.out _ _ ?_ (fun hHeld=> ?_)
       ·
        (try dsimp only); exact Y3
       clear hK K;try go_simp
       refine tk 11 ?_; go_simp;refine r1 12 (fun K hK=> ?_);go_simp;refine hK.out _ _ ?_ (fun hHeld=> ?_)
       ·
        (try dsimp only); exact Y5
       clear hK K;try go_simp
       refine r1 13 (fun K hK=> ?_);refine q1L rfl (.tmp 67) (.tmp 79) 35 rfl w2.heap.size 47 i0 Tryz.underlying35 hi0 hz0 hz1 hz2 u12 ps (by simp [Act.eval]) hspW ⟨w3.heap.size,0,none⟩ 1 1 [(.slice va3 vn3 vc3,pq)] (by simp [Act.eval]) hprW (by simp; omega) (by simp; omega) ?_;intro v4 w4 hown4 hg4 hat4;have Y6:w4.cell? ⟨fb,0,none⟩=some (.slice (some ⟨rb,roff,none⟩) px.length rcap)/\w4.cell? ⟨fb,1,none⟩=some (.int .i64 pw)/\w4.cell? ⟨wr.heap.size,0,none⟩=some (.slice qa qn qc)/\w4.cell? ⟨wr.heap.size,1,none⟩=some (.int .i64 qw):=⟨j1F (p:=⟨fb,0,none⟩) hg4 hf4 hne1 Y5.1,j1F (p:=⟨fb,1,none⟩) hg4 hf4 hne1 Y5.2.1,j1F (p:=⟨wr.heap.size,0,none⟩) hg4 hq4 hne2 Y5.2.2.1,j1F (p:=⟨wr.heap.size,1,none⟩) hg4 hq4 hne2 Y5.2.2.2⟩;obtain ⟨Z4,B4⟩:=hfin v4 w4 hown4 hg4;have HN4:Hid (some fb≠v4.ownBlock):=by
        rcases hat4 with e | e
        ·
         rw [Hid,e]; exact hne1
        ·
         rw [Hid,e]; intro e2; injection e2 with e2; omega
       refine hK.out _ _ ?_ (fun hHeld=> ?_)
       ·
        (try dsimp only); exact Y6
       clear hK K;try go_simp
       refine tk 14 ?_; go_simp;refine dn ?_;have HK:Hid (Below w2.heap.size w2 w4):=HBB.out.trans ((hb3.mono (by (show _<=wb.heap.size); omega)).trans B4);have HF4:Hid (fb<w4.heap.size/\w4.cell? ⟨fb,0,none⟩=some (.slice (some ⟨rb,roff,none⟩) px.length rcap)/\w4.cell? ⟨fb,1,none⟩=some (.int .i64 pw)):=⟨Nat.lt_of_lt_of_le hf4 hg4.size,Y6.1,Y6.2.1⟩;have HZ4:Hid (z1V w4 w2.heap.size w4.heap.size v4 (j1H (a.take j) b x y++v1F (px,pw) ((v1E b y cc).take (l+1)))):=by
        show z1V _ _ _ _ _;rw [HTW.out,<-List.append_assoc,<-HACC.out];exact Z4
       clear hfin hown4 hg4 hat4 hspW hprW B4 Z4 Y0 Y3 Y5 Y6 hb3 hk3 O3 ZB i1 i2 hal;go_wp2;go_roundw
       case rel=>exact ⟨l+1,by omega,by go_num,HZ4.out,HK.out,HN4.out,HF4.out⟩
       case measure=>simp [intOf]; omega
      ·
       obtain rfl:l=L:=by omega
       have hZ:=HZQ.out;have hml:(v1E b y cc).length=l:=by rw [<-HITS.out,q1E,<-HL.out]
       have htk:(v1E b y cc).take l=v1E b y cc:=List.take_of_length_le (by omega);rw [htk] at hZ;have HK2:Hid (Below w2.heap.size w2 wr):=HWQ.out;have HZ2:Hid (z1V wr w2.heap.size wr.heap.size u12 (j1H (a.take (j+1)) b x y)):=by
        show z1V _ _ _ _ _;rw [HT.out];exact hZ
       clear hZ;go_wp2;go_roundw
       case rel=>exact ⟨j+1,by omega,by go_num,HZ2.out,HK2.out⟩
       case measure=>simp [intOf]; omega
    ·
     obtain rfl:j=n:=by omega
     have hZ:=HZ.out;rw [HN.out,List.take_length] at hZ;clear hacell hx hca;go_wp2;go_ret;exact ⟨_,rfl,hZ.wide (by omega) (Nat.le_refl _) (Nat.le_refl _),HW.out.trans (HW2.out.mono (by omega))⟩
theorem row_at' {w:World} {v:Value} {xs:List Int} (h:z1E w v xs) {j:Nat} (hj:j<xs.length):∃ b off cap,v = .slice (some ⟨b,off,none⟩) xs.length cap/\b<w.heap.size/\w.cell? ⟨b,off+j,none⟩=some (.int .i64 (xs.getD j 0)):=by
 obtain ⟨_,a,cap,rfl,_,hc⟩:=h;obtain ⟨b,off,rfl,hb,hcell⟩:=hc (fun e=>by rw [e] at hj; simp at hj);exact ⟨b,off,cap,rfl,hb,hcell j hj⟩
def j1E (a b:List It) (x y:Nat):Bool:=a.all fun p=>b.all fun q=>decide (x<p.1.length/\y<q.1.length)
theorem both_no {a b:List It} {x y i k:Nat} (hi:i<a.length) (hk:k<b.length) (h:¬ (x<(a.getD i ([],0)).1.length/\y<(b.getD k ([],0)).1.length)):j1E a b x y=false:=by
 unfold j1E;rw [List.all_eq_false];refine ⟨a.getD i ([],0),by simp [List.getD,hi],?_⟩;rw [Bool.not_eq_true,List.all_eq_false];exact ⟨b.getD k ([],0),by simp [List.getD,hk],by simpa using h⟩
theorem both_yes {a b:List It} {x y:Nat} (h:∀ i,i<a.length->∀ k,k<b.length->x<(a.getD i ([],0)).1.length/\y<(b.getD k ([],0)).1.length):j1E a b x y=true:=by
 unfold j1E;rw [List.all_eq_true];intro p hp;rw [List.all_eq_true];intro q hq;obtain ⟨i,hi,e1⟩:=j1J (d:=([],0)) hp;obtain ⟨k,hk,e2⟩:=j1J (d:=([],0)) hq;rw [<-e1,<-e2];simpa using h i hi k hk
theorem k4D (v u:Value) (a b:List It) (x y:Nat) (w:World) (h:z1I w v a) (h2:z1I w u b) (hpa:0<a.length) (hpb:0<b.length) (ha:a.length<=100) (hb:b.length<=100)
  (hla:∀ p∈a,p.1.length<=6/\-10000<=p.2/\p.2<=10000) (hlb:∀ p∈b,p.1.length<=6/\-10000<=p.2/\p.2<=10000) (hin:∀ z∈j1H a b x y,-100000000<=z.2/\z.2<=100000000) :
  Calls Tryz.prog 111 #[v,u,.int .i64 x,.int .i64 y] w fun e w'=> ∃ v',e = .returned (.tuple #[v',.bool (j1E a b x y)])/\(j1E a b x y=true->z1V w' w.heap.size w'.heap.size v' (j1L [] (j1H a b x y)))/\Below w.heap.size w w':=by
 rcases h.cases with ⟨aa,ac,rfl,rfl⟩ | ⟨ab,aoff,ac,_,_,rfl,habw,hca⟩
 ·
  simp at hpa
 rcases h2.cases with ⟨ba,bc,rfl,rfl⟩ | ⟨bb,boff,bc,_,_,rfl,hbbw,hcb⟩
 ·
  simp at hpb
 obtain ⟨n,hn⟩:∃ n,n=a.length:=⟨_,rfl⟩;obtain ⟨m,hm⟩:∃ m,m=b.length:=⟨_,rfl⟩;rw [<-hn] at hpa ha hca ⊢;rw [<-hm] at hpb hb hcb ⊢;have HN:Hid (n=a.length):=hn;have HM:Hid (m=b.length):=hm;have hsum:∀ L:List It,(∀ z∈L,-100000000<=z.2/\z.2<=100000000)->L.length<=20000->∀ j,j<(j1L [] L).length->-4611686018427387904<=((j1L [] L).getD j ([],0)).2/\((j1L [] L).getD j ([],0)).2<=4611686018427387903:=fun L hL hl j hj=>by
  have h1:=z3B (B:=0) (C:=100000000) (by omega) (by omega) L (a:=[]) (k:=0) (by omega) (fun p hp=>by simp at hp) hL _ (x1O hj)
  have h2:((L.length:Nat):Int)<=20000:=by omega
  omega
 have HSUM:Hid _:=hsum;clear hn hm h h2 hsum;go_enter Tryz.func111,Tryz.ntmps111;go_wp2;go_loopw [10,11] (fun s t wr=> ∃ (i:Nat),i<=n/\t = .int .i64 i/\Hid (z1V wr w.heap.size wr.heap.size s (j1L [] (j1H (a.take i) b x y)))/\Hid (Below w.heap.size w wr)/\Hid (∀ i',i'<i->∀ k,k<m->x<(a.getD i' ([],0)).1.length/\y<(b.getD k ([],0)).1.length)) (fun _ t _=>n - (intOf t).toNat)
 case atStart=>exact ⟨0,Nat.zero_le _,rfl,z1T w,z1C _,fun i' hi'=>by omega⟩
 case round=>
  obtain ⟨i,hi,rfl,HZ,HW,HALL⟩:=hrel;by_cases hlti:i<n
  ·
   have hia:i<a.length:=by rw [<-HN.out]; exact hlti
   obtain ⟨pv,c0,c1,hpi⟩:=hca i hlti;have hpin:=hla _ (x1O hia);have HT:Hid _:=k3G (a:=a) b x y hia;have hno:=fun k=>both_no (a:=a) (b:=b) (x:=x) (y:=y) (i:=i) (k:=k) hia;obtain ⟨p,HP⟩:∃ p,Hid (p=a.getD i ([],0)):=⟨_,rfl⟩;rw [<-HP.out] at c1 hpi hpin HT hno;obtain ⟨px,pw⟩:=p;simp only at c1 hpi hpin HT hno;obtain ⟨pa,pn,pc,rfl⟩:=hpi.shape;have HPN:Hid (pn=px.length):=by obtain ⟨_,_,_,e,_⟩:=hpi; simp at e; exact e.2.1
   have HPI:Hid (z1E w (.slice pa pn pc) px):=hpi;obtain ⟨cx,HCX⟩:∃ cx,Hid (cx=px.getD x 0):=⟨_,rfl⟩;rw [<-HCX.out] at HT;have HZ0:Hid (z1V wr w.heap.size wr.heap.size u10 (j1L [] (j1H (a.take i) b x y++v1F (px,pw) (v1E (b.take 0) y cx)))):=by
    have:=HZ.out;simpa [v1F,v1E,Hid] using this
   have HW0:=HW;clear hpi HZ HW;go_wp2;go_loopw [10,12] (fun s t wr=> ∃ (k:Nat),k<=m/\t = .int .i64 k/\Hid (z1V wr w.heap.size wr.heap.size s (j1L [] (j1H (a.take i) b x y++v1F (px,pw) (v1E (b.take k) y cx))))/\Hid (Below w.heap.size w wr)/\Hid (∀ k',k'<k->x<px.length/\y<(b.getD k' ([],0)).1.length)) (fun _ t _=>m - (intOf t).toNat)
   case atStart=>exact ⟨0,Nat.zero_le _,rfl,HZ0.out,HW0.out,fun k' hk'=>by omega⟩
   case round=>
    obtain ⟨k,hk,rfl,HZ,HW,HA⟩:=hrel;clear HZ0 HW0;by_cases hltk:k<m
    ·
     have hkb:k<b.length:=by rw [<-HM.out]; exact hltk
     have hbq:=HW.out;obtain ⟨qv,d0,d1,hqi0⟩:=hcb k hltk;have hqin:=hlb _ (x1O hkb);have HTM:Hid _:=x5R (b:=b) y cx hkb;have hnok:=hno k hkb;obtain ⟨q,HQ⟩:∃ q,Hid (q=b.getD k ([],0)):=⟨_,rfl⟩;rw [<-HQ.out] at d1 hqi0 hqin HTM hnok;obtain ⟨qx,qw⟩:=q;simp only at d1 hqi0 hqin HTM hnok;obtain ⟨qa,qn,qc,rfl⟩:=hqi0.shape;have hqn:qn=qx.length:=by obtain ⟨_,_,_,e,_⟩:=hqi0; simp at e; exact e.2.1
     have g0:=(hbq.cell (p:=⟨ab,aoff+i*2,none⟩) habw).trans c0;have g1:=(hbq.cell (p:=⟨bb,boff+k*2,none⟩) hbbw).trans d0;have habr:ab<wr.heap.size:=Nat.lt_of_lt_of_le habw hbq.size;have hbbr:bb<wr.heap.size:=Nat.lt_of_lt_of_le hbbw hbq.size;by_cases hxx:x<pn
     ·
      by_cases hyy:y<qn
      ·
       have hxp:x<px.length:=by rw [<-HPN.out]; exact hxx
       have hyq:y<qx.length:=by rw [<-hqn]; exact hyy
       obtain ⟨ra,roa,rca,e1,hraw,hcx0⟩:=row_at' HPI.out hxp;obtain ⟨rb,rob,rcb,e2,hrbw,hcy0⟩:=row_at' hqi0 hyq;simp only [Value.slice.injEq] at e1 e2;obtain ⟨rfl,rfl,rfl⟩:=e1;obtain ⟨rfl,rfl,rfl⟩:=e2;rw [<-HCX.out] at hcx0;obtain ⟨cy,HCY⟩:∃ cy,Hid (cy=qx.getD y 0):=⟨_,rfl⟩;rw [<-HCY.out] at hcy0 HTM;have hcx:=(hbq.cell (p:=⟨ra,roa+x,none⟩) hraw).trans hcx0;have hcy:=(hbq.cell (p:=⟨rb,rob+y,none⟩) hrbw).trans hcy0;have Y0:wr.cell? ⟨ab,aoff+i*2,none⟩=some (.slice (some ⟨ra,roa,none⟩) px.length pc)/\wr.cell? ⟨bb,boff+k*2,none⟩=some (.slice (some ⟨rb,rob,none⟩) qx.length qc)/\wr.cell? ⟨ra,roa+x,none⟩=some (.int .i64 cx)/\wr.cell? ⟨rb,rob+y,none⟩=some (.int .i64 cy):=⟨g0,g1,hcx,hcy⟩;have HA2:Hid (∀ k',k'<k+1->x<px.length/\y<(b.getD k' ([],0)).1.length):=fun k' hk'=>by
        rcases Nat.lt_succ_iff_lt_or_eq.1 hk' with h | h
        ·
         exact HA.out k' h
        ·
         rw [h,<-HQ.out]; exact ⟨hxp,hyq⟩
       have hxge:¬ ((x:Int) ≥ (px.length:Int)):=by omega
       have hyge:¬ ((y:Int) ≥ (qx.length:Int)):=by omega
       have HWD:Hid (Below w.heap.size w wr.drew.drew):=hbq.drew.drew;have hwd:w.heap.size<=wr.drew.drew.heap.size:=hbq.size;have i1:z1E wr.drew.drew (.slice (some ⟨ra,roa,none⟩) px.length pc) px:=HPI.out.below HWD.out;have i2:z1E wr.drew.drew (.slice (some ⟨rb,rob,none⟩) qx.length qc) qx:=hqi0.below HWD.out;have hjn:px.length+qx.length<=8796093022208:=by omega
       have hjl:(j1H (a.take i) b x y++v1F (px,pw) (v1E (b.take k) y cx)).length<=10100:=by
        have h5:=k2L b x y (a.take i);have h6:(a.take i).length*b.length<=100*100:=Nat.mul_le_mul (by rw [List.length_take]; omega) (by rw [<-HM.out]; omega);have h7:=j4U (b.take k) y cx;rw [List.length_append,j3A];rw [List.length_take] at h7;omega
       by_cases hc:cx=cy
       ·
        have HTT:Hid (j1H (a.take i) b x y++v1F (px,pw) (v1E (b.take (k+1)) y cx)=(j1H (a.take i) b x y++v1F (px,pw) (v1E (b.take k) y cx))++[(px++qx,pw*qw)]):=by
         show _=_;rw [HTM.out,if_pos hc.symm,q4O,<-List.append_assoc];rfl
        have hmul:=z3W (A:=10000) (B:=10000) (a:=pw) (b:=qw) hpin.2 hqin.2 (by omega) (by omega);obtain ⟨pq,HPQ⟩:∃ pq,Hid (pq=pw*qw):=⟨_,rfl⟩;have hwrap:IntKind.i64.wrap (pw*qw)=pq:=by rw [HPQ.out,IntKind.wrap_i64]; omega
        rw [<-HPQ.out] at hmul;have hwz:=HSUM.out (j1H (a.take i) b x y++v1F (px,pw) (v1E (b.take k) y cx)) (fun z hz=>by
         rcases List.mem_append.1 hz with h | h
         ·
          obtain ⟨p',hp',q',hq',e⟩:=q5N h;rw [e];have t1:=hla p' (List.mem_of_mem_take hp');have t2:=hlb q' hq';have:=z3W (A:=10000) (B:=10000) t1.2 t2.2 (by omega) (by omega);exact ⟨by show -100000000<=p'.2*q'.2; omega,by show p'.2*q'.2<=100000000; omega⟩
         ·
          obtain ⟨q',hq',e⟩:=q5M h;rw [e];have t2:=hlb q' (List.mem_of_mem_take (List.mem_filter.1 hq').1);have:=z3W (A:=10000) (B:=10000) hpin.2 t2.2 (by omega) (by omega);exact ⟨by show -100000000<=pw*q'.2; omega,by show pw*q'.2<=100000000; omega⟩) (by omega)
        have hal:=add_len (j1H (a.take i) b x y++v1F (px,pw) (v1E (b.take k) y cx)) [];have ZB:z1V wr.drew.drew w.heap.size wr.heap.size u10 (j1L [] (j1H (a.take i) b x y++v1F (px,pw) (v1E (b.take k) y cx))):=(HZ.out.keep' (Below.drew (Below.refl _ _))).keep' (Below.drew (Below.refl _ _));obtain ⟨acc,HACC⟩:∃ acc,Hid (acc=j1L [] (j1H (a.take i) b x y++v1F (px,pw) (v1E (b.take k) y cx))):=⟨_,rfl⟩;rw [<-HACC.out] at ZB hwz hal;have hal':acc.length<=10100:=by
         have h9:=hal;rw [List.length_nil,Nat.zero_add] at h9;exact Nat.le_trans h9 hjl
        have hce:(cx==cy)=true:=by simp [hc]
        clear hnok hno HZ HW HA hal hcx0 hcy0 hcx hcy;go_wp2;refine wp_region_held_drew (S:=(fun w'=>w'.cell? ⟨ab,aoff+i*2,none⟩=some (.slice (some ⟨ra,roa,none⟩) px.length pc)/\w'.cell? ⟨bb,boff+k*2,none⟩=some (.slice (some ⟨rb,rob,none⟩) qx.length qc)/\w'.cell? ⟨ra,roa+x,none⟩=some (.int .i64 cx)/\w'.cell? ⟨rb,rob+y,none⟩=some (.int .i64 cy))) (by kernel_rfl) ?_ (fun hHeld=> ?_)
        ·
         (try dsimp only); exact Y0
        refine tk 0 ?_;simp only [Act.put,List.getElem_toArray,List.getElem_cons_zero,List.setIfInBounds_toArray,List.set_cons_zero,List.set_cons_succ];refine tk 1 ?_; simp only [ap];refine tk 2 ?_; simp only [ap];refine tk 3 ?_; simp only [ap];refine tk 4 ?_; simp only [ap];refine tk 5 ?_; simp only [ap];refine tk 6 ?_; simp only [ap];refine tk 7 ?_; simp only [ap];refine tk 8 ?_; simp only [ap];refine tk 9 ?_; simp only [ap];refine tk 10 ?_; simp only [ap];refine tk 11 ?_; simp only [ap];refine tk 12 ?_; simp only [ap];refine tk 13 ?_; simp only [ap];refine tk 14 ?_; simp only [ap];refine tk 15 ?_; simp only [ap];refine tk 16 ?_; simp only [ap];refine dn ?_;clear Y0;have Y0:wr.drew.drew.cell? ⟨ab,aoff+i*2,none⟩=some (.slice (some ⟨ra,roa,none⟩) px.length pc)/\wr.drew.drew.cell? ⟨ab,aoff+i*2+1,none⟩=some (.int .i64 pw)/\wr.drew.drew.cell? ⟨bb,boff+k*2,none⟩=some (.slice (some ⟨rb,rob,none⟩) qx.length qc)/\wr.drew.drew.cell? ⟨bb,boff+k*2+1,none⟩=some (.int .i64 qw):=⟨(HWD.out.cell (p:=⟨ab,aoff+i*2,none⟩) habw).trans c0,(HWD.out.cell (p:=⟨ab,aoff+i*2+1,none⟩) habw).trans c1,(HWD.out.cell (p:=⟨bb,boff+k*2,none⟩) hbbw).trans d0,(HWD.out.cell (p:=⟨bb,boff+k*2+1,none⟩) hbbw).trans d1⟩;clear hbq g0 g1;go_wp2;refine wp_region_held_drew (S:=(fun w'=>w'.cell? ⟨ab,aoff+i*2,none⟩=some (.slice (some ⟨ra,roa,none⟩) px.length pc)/\w'.cell? ⟨ab,aoff+i*2+1,none⟩=some (.int .i64 pw)/\w'.cell? ⟨bb,boff+k*2,none⟩=some (.slice (some ⟨rb,rob,none⟩) qx.length qc)/\w'.cell? ⟨bb,boff+k*2+1,none⟩=some (.int .i64 qw))) (by kernel_rfl) ?_ (fun hHeld=> ?_)
        ·
         (try dsimp only); exact Y0
        refine tk 0 ?_;simp only [Act.put,List.getElem_toArray,List.getElem_cons_zero,List.setIfInBounds_toArray,List.set_cons_zero,List.set_cons_succ];refine tk 1 ?_; simp only [ap];refine tk 2 ?_; simp only [ap];refine tk 3 ?_; simp only [ap];refine tk 4 ?_; simp only [ap];refine tk 5 ?_; simp only [ap];refine tk 6 ?_; simp only [ap];refine tk 7 ?_; simp only [ap];refine tk 8 ?_; simp only [ap];refine tk 9 ?_; simp only [ap];refine tk 10 ?_; simp only [ap];refine tk 12 ?_; simp only [ap];refine tk 13 ?_; simp only [ap];refine tk 14 ?_; simp only [ap];refine tk 15 ?_; simp only [ap];refine tk 16 ?_; simp only [ap];refine tk 17 ?_; simp only [ap];refine tk 18 ?_; simp only [ap];refine tk 19 ?_; simp only [ap];refine tk 20 ?_; simp only [ap];refine tk 21 ?_; simp only [ap];refine tk 22 ?_; simp only [ap];refine r1 11 (fun K hK=> ?_);go_simp;(go_at_call 151; refine (j3G _ _ px qx _ i1 i2 hjn).mono ?_; rintro e w3 ⟨v3,rfl,O3,hb3⟩);have hk3:Below w.heap.size w w3:=HWD.out.trans (hb3.mono hwd);obtain ⟨va3,vn3,vc3,rfl⟩:=O3.ints.shape;have Y3:w3.cell? ⟨ab,aoff+i*2,none⟩=some (.slice (some ⟨ra,roa,none⟩) px.length pc)/\w3.cell? ⟨ab,aoff+i*2+1,none⟩=some (.int .i64 pw)/\w3.cell? ⟨bb,boff+k*2,none⟩=some (.slice (some ⟨rb,rob,none⟩) qx.length qc)/\w3.cell? ⟨bb,boff+k*2+1,none⟩=some (.int .i64 qw):=⟨(hk3.cell (p:=⟨ab,aoff+i*2,none⟩) habw).trans c0,(hk3.cell (p:=⟨ab,aoff+i*2+1,none⟩) habw).trans c1,(hk3.cell (p:=⟨bb,boff+k*2,none⟩) hbbw).trans d0,(hk3.cell (p:=⟨bb,boff+k*2+1,none⟩) hbbw).trans d1⟩;have ZB3:=(ZB.keep' hb3).wide (Nat.le_refl _) hb3.size (Nat.le_refl _);refine hK.out _ _ ?_ (fun hHeld=> ?_)
        ·
         (try dsimp only); exact Y3
        clear hK K;try simp only [ap]
        refine r1 23 (fun K hK=> ?_);go_simp;(go_at_call 98; refine (k1Q _ w.heap.size w3.heap.size acc _ (px++qx) pq _ ZB3 hk3.size O3.ints (by omega) (by rw [List.length_append]; omega) hwz (by omega)).mono ?_; rintro e w4 ⟨v4,rfl,Z4,O4⟩);have hk4:Below w.heap.size w w4:=O4.below hk3 (Nat.le_refl _) hk3.size;have Y4:w4.cell? ⟨ab,aoff+i*2,none⟩=some (.slice (some ⟨ra,roa,none⟩) px.length pc)/\w4.cell? ⟨ab,aoff+i*2+1,none⟩=some (.int .i64 pw)/\w4.cell? ⟨bb,boff+k*2,none⟩=some (.slice (some ⟨rb,rob,none⟩) qx.length qc)/\w4.cell? ⟨bb,boff+k*2+1,none⟩=some (.int .i64 qw):=⟨(hk4.cell (p:=⟨ab,aoff+i*2,none⟩) habw).trans c0,(hk4.cell (p:=⟨ab,aoff+i*2+1,none⟩) habw).trans c1,(hk4.cell (p:=⟨bb,boff+k*2,none⟩) hbbw).trans d0,(hk4.cell (p:=⟨bb,boff+k*2+1,none⟩) hbbw).trans d1⟩;refine hK.out _ _ ?_ (fun hHeld=> ?_)
        ·
         (try dsimp only); exact Y4
        clear hK K;try simp only [ap]
        refine tk 24 ?_; simp only [ap];refine dn ?_;have HK:Hid (Below w.heap.size w w4):=hk4;have HZ4:Hid (z1V w4 w.heap.size w4.heap.size v4 (j1L [] (j1H (a.take i) b x y++v1F (px,pw) (v1E (b.take (k+1)) y cx)))):=by
         show z1V _ _ _ _ _;rw [HTT.out,x3Q,<-HACC.out,<-HPQ.out];exact Z4
        clear Z4 O4 hk4 Y0 Y3 Y4 hb3 hk3 O3 ZB ZB3 i1 i2 hwz;go_wp2;go_roundw
        case rel=>exact ⟨k+1,by omega,by go_num,HZ4.out,HK.out,HA2.out⟩
        case measure=>simp [intOf]; omega
       ·
        have HTT:Hid (j1H (a.take i) b x y++v1F (px,pw) (v1E (b.take (k+1)) y cx)=j1H (a.take i) b x y++v1F (px,pw) (v1E (b.take k) y cx)):=by
         show _=_;rw [HTM.out,if_neg (fun e=>hc e.symm),List.append_nil]
        have hcf:(cx==cy)=false:=by simp [hc]
        have HZ4:Hid (z1V wr.drew w.heap.size wr.drew.heap.size u10 (j1L [] (j1H (a.take i) b x y++v1F (px,pw) (v1E (b.take (k+1)) y cx)))):=by
         show z1V _ _ _ _ _;rw [HTT.out];exact HZ.out.keep' (Below.drew (Below.refl _ _))
        have HK:Hid (Below w.heap.size w wr.drew):=hbq.drew;clear hnok hno HZ HW HA hcx0 hcy0 hcx hcy hbq i1 i2 HWD;go_wp2;refine wp_region_held_drew (S:=(fun w'=>w'.cell? ⟨ab,aoff+i*2,none⟩=some (.slice (some ⟨ra,roa,none⟩) px.length pc)/\w'.cell? ⟨bb,boff+k*2,none⟩=some (.slice (some ⟨rb,rob,none⟩) qx.length qc)/\w'.cell? ⟨ra,roa+x,none⟩=some (.int .i64 cx)/\w'.cell? ⟨rb,rob+y,none⟩=some (.int .i64 cy))) (by kernel_rfl) ?_ (fun hHeld=> ?_)
        ·
         (try dsimp only); exact Y0
        refine tk 0 ?_;simp only [Act.put,List.getElem_toArray,List.getElem_cons_zero,List.setIfInBounds_toArray,List.set_cons_zero,List.set_cons_succ];refine tk 1 ?_; simp only [ap];refine tk 2 ?_; simp only [ap];refine tk 3 ?_; simp only [ap];refine tk 4 ?_; simp only [ap];refine tk 5 ?_; simp only [ap];refine tk 6 ?_; simp only [ap];refine tk 7 ?_; simp only [ap];refine tk 8 ?_; simp only [ap];refine tk 9 ?_; simp only [ap];refine tk 10 ?_; simp only [ap];refine tk 11 ?_; simp only [ap];refine tk 12 ?_; simp only [ap];refine tk 13 ?_; simp only [ap];refine tk 14 ?_; simp only [ap];refine tk 15 ?_; simp only [ap];refine tk 16 ?_; simp only [ap];refine dn ?_;clear Y0;go_wp2;go_roundw
        case rel=>exact ⟨k+1,by omega,by go_num,HZ4.out,HK.out,HA2.out⟩
        case measure=>simp [intOf]; omega
      ·
       have HF:Hid (j1E a b x y=false):=hnok (fun e=>hyy (by rw [hqn]; exact e.2));have hyge:(y:Int) ≥ (qn:Int):=by omega
       have HK:Hid (Below w.heap.size w wr):=hbq;clear hnok hno HZ HW HA hbq;go_wp2;go_ret2;rw [HF.out];exact ⟨_,rfl,fun e=>by simp at e,HK.out⟩
     ·
      have HF:Hid (j1E a b x y=false):=hnok (fun e=>hxx (by rw [HPN.out]; exact e.1));have hxge:(x:Int) ≥ (pn:Int):=by omega
      have HK:Hid (Below w.heap.size w wr):=hbq;clear hnok hno HZ HW HA hbq;go_wp2;go_ret2;rw [HF.out];exact ⟨_,rfl,fun e=>by simp at e,HK.out⟩
    ·
     obtain rfl:k=m:=by omega
     have hZ:=HZ.out;rw [HM.out,List.take_length] at hZ;have HZ2:Hid (z1V wr w.heap.size wr.heap.size u10 (j1L [] (j1H (a.take (i+1)) b x y))):=by
      show z1V _ _ _ _ _;rw [HT.out];exact hZ
     have HALL2:Hid (∀ i',i'<i+1->∀ k',k'<k->x<(a.getD i' ([],0)).1.length/\y<(b.getD k' ([],0)).1.length):=fun i' hi' k' hk'=>by
      rcases Nat.lt_succ_iff_lt_or_eq.1 hi' with h | h
      ·
       exact HALL.out i' h k' hk'
      ·
       rw [h,<-HP.out]; exact HA.out k' hk'
     clear hno hZ;go_wp2;go_roundw
     case rel=>exact ⟨i+1,by omega,by go_num,HZ2.out,HW.out,HALL2.out⟩
     case measure=>simp [intOf]; omega
  ·
   obtain rfl:i=n:=by omega
   have hZ:=HZ.out;rw [HN.out,List.take_length] at hZ;have HT:Hid (j1E a b x y=true):=both_yes (fun i' hi' k' hk'=>HALL.out i' (by rw [HN.out]; exact hi') k' (by rw [HM.out]; exact hk'));clear hca hcb;go_wp2;go_ret2;rw [HT.out];exact ⟨_,rfl,fun _=>hZ,HW.out⟩
theorem k2W (n:Int) (w:World):Calls Tryz.prog 105 #[.int .i64 n,.int .i64 6] w fun e w'=>e = .returned (.bool (z2Y n))/\w'=w:=by
 by_cases h1:0<=n
 ·
  by_cases h2:n<6
  ·
   go_enter Tryz.func105,Tryz.ntmps105;go_wp2;go_ret;exact ⟨retb (by simp [z2Y]; omega),rfl⟩
  ·
   go_enter Tryz.func105,Tryz.ntmps105;go_wp2;go_ret;exact ⟨retb (by simp [z2Y]; omega),rfl⟩
 ·
  go_enter Tryz.func105,Tryz.ntmps105;go_wp2;go_ret;exact ⟨retb (by simp [z2Y]; omega),rfl⟩
theorem k3H {a b:List It} (x y:Nat) (h:a.length=0\/b.length=0):j1H a b x y=[]:=by
 rcases h with h | h
 ·
  rw [List.length_eq_zero_iff.1 h]; rfl
 ·
  rw [List.length_eq_zero_iff.1 h];unfold j1H v1E v1F;simp
theorem row_in {xs:List Int} (h:z1R xs=true) (j:Nat) : -1000000000<=xs.getD j 0/\xs.getD j 0<=1000000000:=by
 by_cases hj:j<xs.length
 ·
  simp only [z1R,Bool.and_eq_true,List.all_eq_true] at h;have:=h.2 xs[j] (List.getElem_mem hj);simp [q1W] at this;simpa [List.getD,hj] using this
 ·
  have:xs.getD j 0=0:=by simp [List.getD,List.getElem?_eq_none (Nat.le_of_not_lt hj)]
  rw [this]; omega
theorem q5Q {zs:List It} (h:q1G zs=true) (x:Nat):∀ k,k<zs.length->-9223372036854775808<=(zs.getD k ([],0)).1.getD x 0/\(zs.getD k ([],0)).1.getD x 0<=9223372036854775807:=fun k hk=>by
 have:=row_in (j1S h hk).1 x
 omega
theorem x2Q {zs:List It} (h:q1G zs=true):∀ p∈zs,p.1.length<=6/\-10000<=p.2/\p.2<=10000:=fun _ hp=>k5B h hp
theorem k4R (v u:Value) (a b:List It) (x y:Int) (w:World) (h:z1I w v a) (h2:z1I w u b) (h0:a.length=0\/b.length=0) :
  Calls Tryz.prog 33 #[v,u,.int .i64 x,.int .i64 y] w fun e w'=>e = .returned (.slice none 0 0)/\w'=w:=by
 obtain ⟨va,vc,rfl⟩:∃ va vc,v = .slice va a.length vc:=by obtain ⟨_,va,vc,hv,_⟩:=h; exact ⟨va,vc,hv⟩
 obtain ⟨ua,uc,rfl⟩:∃ ua uc,u = .slice ua b.length uc:=by obtain ⟨_,ua,uc,hu,_⟩:=h2; exact ⟨ua,uc,hu⟩
 clear h h2;by_cases ha:a.length=0
 ·
  rw [ha];go_enter Tryz.func33,Tryz.ntmps33;go_wp2;go_ret;exact ⟨rfl,rfl⟩
 ·
  have hb:b.length=0:=by omega
  have hnf:((a.length:Int)==0)=false:=by rw [beq_eq_false_iff_ne]; omega
  rw [hb];go_enter Tryz.func33,Tryz.ntmps33;go_wp2;go_ret;exact ⟨rfl,rfl⟩
theorem v5C (v u:Value) (a b:List It) (x y:Nat) (w:World) (h:z1I w v a) (h2:z1I w u b) (ha:q1G a=true) (hb:q1G b=true) (hc:j5C a b x y=true) :
  Calls Tryz.prog 33 #[v,u,.int .i64 x,.int .i64 y] w fun e w'=> ∃ v',e = .returned v'/\z1V w' w.heap.size w'.heap.size v' (j1H a b x y)/\Below w.heap.size w w':=by
 by_cases h0:a.length=0\/b.length=0
 ·
  refine (k4R v u a b x y w h h2 h0).mono ?_;rintro e w' ⟨rfl,rfl⟩;exact ⟨_,rfl,by rw [k3H x y h0]; exact q1D _ _,Below.refl _ _⟩
 ·
  have hpa:0<a.length:=by omega
  have hpb:0<b.length:=by omega
  obtain ⟨_,_,hx,hy⟩:=can_at hc hpa hpb;exact k4Q v u a b x y w h h2 hpa hpb (v1B ha) (v1B hb) (fun k hk=>by have:=hx k hk; omega) (fun k hk=>by have:=hy k hk; omega) (x2Q ha) (x2Q hb) (q5Q ha x) (q5Q hb y)
theorem z2Z {a b:List It} {x y:Int} (h:(q1G a&&q1G b&&j5C a b x y)=false):z2Q a b x y=false/\v1O a b x y=[]:=by
 have:z2Q a b x y=false:=by unfold z2Q; rw [h,Bool.false_and]
 exact ⟨this,by unfold v1O; rw [this]; rfl⟩
theorem x4O (v u:Value) (a b:List It) (x y:Int) (w:World) (h:z1I w v a) (h2:z1I w u b) :
  Calls Tryz.prog 10 #[v,u,.int .i64 x,.int .i64 y] w fun e w'=> ∃ v',e = .returned (.tuple #[v',.bool (z2Q a b x y)])/\z1V w' w.heap.size w'.heap.size v' (v1O a b x y)/\Below w.heap.size w w':=by
 cases ha:q1G a with
 | false=>
  obtain ⟨e0,e1⟩:=z2Z (a:=a) (b:=b) (x:=x) (y:=y) (by rw [ha]; rfl);rw [e0,e1];go_enter Tryz.func10,Tryz.ntmps10;go_wp2_with fail;refine (z1O v a _ h).mono ?_;rw [ha];rintro e w1 ⟨rfl,hb1⟩;have HK:Hid (Below w.heap.size w w1):=hb1;clear h h2 hb1 e0 e1;go_wp2;go_ret2;exact ⟨_,rfl,q1D _ _,HK.out⟩
 | true=>
  cases hb:q1G b with
  | false=>
   obtain ⟨e0,e1⟩:=z2Z (a:=a) (b:=b) (x:=x) (y:=y) (by rw [hb,Bool.and_false]; rfl);rw [e0,e1];go_enter Tryz.func10,Tryz.ntmps10;go_wp2_with fail;refine (z1O v a _ h).mono ?_;rw [ha];rintro e w1 ⟨rfl,hb1⟩;go_wp2_with fail;refine (z1O u b _ (h2.below hb1)).mono ?_;rw [hb];rintro e w2 ⟨rfl,hb2⟩;have HK:Hid (Below w.heap.size w w2):=z1D hb1 hb2;clear h h2 hb1 hb2 e0 e1;go_wp2;go_ret2;exact ⟨_,rfl,q1D _ _,HK.out⟩
  | true=>
   cases hc:j5C a b x y with
   | false=>
    obtain ⟨e0,e1⟩:=z2Z (a:=a) (b:=b) (x:=x) (y:=y) (by rw [hc,Bool.and_false]);rw [e0,e1];go_enter Tryz.func10,Tryz.ntmps10;go_wp2_with fail;refine (z1O v a _ h).mono ?_;rw [ha];rintro e w1 ⟨rfl,hb1⟩;go_wp2_with fail;refine (z1O u b _ (h2.below hb1)).mono ?_;rw [hb];rintro e w2 ⟨rfl,hb2⟩;have hk2:=z1D hb1 hb2;go_wp2_with fail;refine (x3O v u a b x y _ (h.below hk2) (h2.below hk2)).mono ?_;rw [hc];rintro e w3 ⟨rfl,hb3⟩;have HK:Hid (Below w.heap.size w w3):=z1D hk2 hb3;clear h h2 hb1 hb2 hb3 hk2 e0 e1;go_wp2;go_ret2;exact ⟨_,rfl,q1D _ _,HK.out⟩
   | true=>
    have hxy:0<=x/\0<=y:=by
     have:=hc;unfold j5C z2Y at this;simp only [Bool.and_eq_true,decide_eq_true_eq] at this;exact ⟨this.1.1.1,this.1.2.1⟩
    obtain ⟨xn,rfl⟩:=Int.eq_ofNat_of_zero_le hxy.1;obtain ⟨yn,rfl⟩:=Int.eq_ofNat_of_zero_le hxy.2;have e0:z2Q a b xn yn=q1G (j1L [] (j1H a b xn yn)):=by simp [z2Q,ha,hb,hc]
    have e1:v1O a b xn yn=if q1G (j1L [] (j1H a b xn yn)) then j1L [] (j1H a b xn yn) else []:=by simp [v1O,e0]
    rw [e0,e1];obtain ⟨os,HO⟩:∃ os,Hid (os=if q1G (j1L [] (j1H a b xn yn)) then j1L [] (j1H a b xn yn) else []):=⟨_,rfl⟩;obtain ⟨c,HC⟩:∃ c,Hid (c=q1G (j1L [] (j1H a b xn yn))):=⟨_,rfl⟩;rw [<-HO.out,<-HC.out];have hfew:=join_few ha hb xn yn;have hin:∀ z∈j1H a b xn yn,-1099511627776<=z.2/\z.2<=1099511627776:=fun z hz=>by have:=(q6Y ha hb hz).2; omega
    go_enter Tryz.func10,Tryz.ntmps10;go_wp2_with fail;refine (z1O v a _ h).mono ?_;rw [ha];rintro e w1 ⟨rfl,hb1⟩;go_wp2_with fail;refine (z1O u b _ (h2.below hb1)).mono ?_;rw [hb];rintro e w2 ⟨rfl,hb2⟩;have hk2:=z1D hb1 hb2;go_wp2_with fail;refine (x3O v u a b xn yn _ (h.below hk2) (h2.below hk2)).mono ?_;rw [hc];rintro e w3 ⟨rfl,hb3⟩;have hk3:=z1D hk2 hb3;go_wp2_with fail;refine (v5C v u a b xn yn _ (h.below hk3) (h2.below hk3) ha hb hc).mono ?_;rintro e w4 ⟨v4,rfl,Z4,hb4⟩;have hk4:=z1D hk3 hb4;have s3:=hk3.size;have s4:=hb4.size;clear h h2 hb1 hb2 hb3 hk2 e0 e1 hxy;go_wp2_with fail;refine (z3R v4 _ _ (j1H a b xn yn) _ Z4 hb4.size (by omega) hin).mono ?_;rintro e w5 ⟨v5,rfl,Z5,O5⟩;have hk5:Below w.heap.size w w5:=O5.below hk4 (by omega) hk4.size;have s5:=O5.size;clear Z4 hb4 hk3 hk4 O5 hin;go_wp2_with fail;refine (v1G v5 (j1L [] (j1H a b xn yn)) _ _ _ Z5 (by omega)).mono ?_;rw [<-HO.out,<-HC.out];rintro e w6 ⟨v6,rfl,Z6,hb6⟩;have HK:Hid (Below w.heap.size w w6):=z1D hk5 hb6;have R:Hid (z1V w6 w.heap.size w6.heap.size v6 os):=Z6.wide s3 (Nat.le_refl _) (Nat.le_refl _);clear Z5 Z6 hb6 hk5;go_wp2;go_ret2;exact ⟨_,rfl,R.out,HK.out⟩
theorem k4E (v u:Value) (a b:List It) (x y:Int) (w:World) (h:z1I w v a) (h2:z1I w u b) (h0:a.length=0\/b.length=0) (hal:a.length<=100) :
  Calls Tryz.prog 111 #[v,u,.int .i64 x,.int .i64 y] w fun e w'=> ∃ v',e = .returned (.tuple #[v',.bool true])/\z1V w' w.heap.size w'.heap.size v' []/\Below w.heap.size w w':=by
 obtain ⟨va,vc,rfl⟩:∃ va vc,v = .slice va a.length vc:=by obtain ⟨_,va,vc,hv,_⟩:=h; exact ⟨va,vc,hv⟩
 obtain ⟨ua,uc,rfl⟩:∃ ua uc,u = .slice ua b.length uc:=by obtain ⟨_,ua,uc,hu,_⟩:=h2; exact ⟨ua,uc,hu⟩
 clear h h2;by_cases ha:a.length=0
 ·
  rw [ha];go_enter Tryz.func111,Tryz.ntmps111;go_wp2;refine wp_loop_rounds 1 ?_;rw [rounds_succ];go_wp2;go_ret2;exact ⟨_,rfl,z1T w,z1C _⟩
 ·
  have hb:b.length=0:=by omega
  rw [hb];obtain ⟨n,hn⟩:∃ n,n=a.length:=⟨_,rfl⟩;rw [<-hn] at hal ⊢;clear hn ha h0;go_enter Tryz.func111,Tryz.ntmps111;go_wp2;go_loopw [10,11] (fun s t wr=> ∃ (i:Nat),i<=n/\t = .int .i64 i/\s = .slice (some ⟨w.heap.size,0,none⟩) 0 0/\wr=w.alloc (.cells #[] 47)) (fun _ t _=>n - (intOf t).toNat)
  case atStart=>exact ⟨0,Nat.zero_le _,rfl,rfl,rfl⟩
  case round=>
   obtain ⟨i,hi,rfl,rfl,rfl⟩:=hrel;by_cases hlti:i<n
   ·
    go_wp2;refine wp_loop_rounds 1 ?_;rw [rounds_succ];go_wp2;go_roundw
    case rel=>exact ⟨i+1,by omega,by go_num,by first | rfl | trivial,by first | rfl | trivial⟩
    case measure=>simp [intOf]; omega
   ·
    obtain rfl:i=n:=by omega
    go_wp2;go_ret2;exact ⟨_,rfl,z1T w,z1C _⟩
theorem both_can {a b:List It} {x y:Nat} (hx:x<6) (hy:y<6):j5C a b x y=j1E a b x y:=by
 have hxy:(z2Y (x:Int)&&z2Y (y:Int))=true:=by simp [z2Y]; omega
 unfold j5C;rw [hxy,Bool.true_and];by_cases h0:a.length=0
 ·
  rw [List.length_eq_zero_iff.1 h0]; simp [j1E]
 ·
  by_cases h1:b.length=0
  ·
   rw [List.length_eq_zero_iff.1 h1]; simp [j1E]
  ·
   simp only [h0,h1,decide_false,Bool.false_or];cases hb:j1E a b x y with
   | true=>
    unfold j1E at hb;rw [List.all_eq_true] at hb;have hall:∀ p∈a,∀ q∈b,x<p.1.length/\y<q.1.length:=fun p hp q hq=>by
     have:=hb p hp
     rw [List.all_eq_true] at this
     simpa using this q hq
    obtain ⟨p0,hp0⟩:=List.exists_mem_of_length_pos (show 0<a.length by omega);obtain ⟨q0,hq0⟩:=List.exists_mem_of_length_pos (show 0<b.length by omega);have e1:j1P x a=true:=by
     unfold j1P; rw [List.all_eq_true]; intro p hp;have:=(hall p hp q0 hq0).1;simp; omega
    have e2:j1P y b=true:=by
     unfold j1P; rw [List.all_eq_true]; intro q hq;have:=(hall p0 hp0 q hq).2;simp; omega
    rw [e1,e2]; rfl
   | false=>
    cases h3:(j1P (x:Int) a&&j1P (y:Int) b) with
    | false=>rfl
    | true=>
     rw [Bool.and_eq_true] at h3;have:j1E a b x y=true:=by
      unfold j1E;rw [List.all_eq_true]; intro p hp;rw [List.all_eq_true]; intro q hq;unfold j1P at h3;rw [List.all_eq_true,List.all_eq_true] at h3;have t1:=h3.1 p hp;have t2:=h3.2 q hq;simp at t1 t2 ⊢;omega
     rw [this] at hb;cases hb
theorem x5V (v u:Value) (a b:List It) (x y:Nat) (w:World) (h:z1I w v a) (h2:z1I w u b) (ha:q1G a=true) (hb:q1G b=true) :
  Calls Tryz.prog 111 #[v,u,.int .i64 x,.int .i64 y] w fun e w'=> ∃ v',e = .returned (.tuple #[v',.bool (j1E a b x y)])/\(j1E a b x y=true->z1V w' w.heap.size w'.heap.size v' (j1L [] (j1H a b x y)))/\Below w.heap.size w w':=by
 by_cases h0:a.length=0\/b.length=0
 ·
  have hbt:j1E a b x y=true:=by
   rcases h0 with e | e
   ·
    rw [List.length_eq_zero_iff.1 e]; simp [j1E]
   ·
    rw [List.length_eq_zero_iff.1 e]; simp [j1E]
  refine (k4E v u a b x y w h h2 h0 (v1B ha)).mono ?_;rintro e w' ⟨v',rfl,hz,hk⟩;exact ⟨v',by rw [hbt],fun _=>by rw [k3H x y h0]; exact hz,hk⟩
 ·
  exact k4D v u a b x y w h h2 (by omega) (by omega) (v1B ha) (v1B hb) (x2Q ha) (x2Q hb) (fun z hz=>(q6Y ha hb hz).2)
theorem j4C (v u:Value) (a b:List It) (x y:Int) (w:World) (h:z1I w v a) (h2:z1I w u b) :
  Calls Tryz.prog 65 #[v,u,.int .i64 x,.int .i64 y] w fun e w'=> ∃ v',e = .returned (.tuple #[v',.bool (z2Q a b x y)])/\z1V w' w.heap.size w'.heap.size v' (v1O a b x y)/\Below w.heap.size w w':=by
 cases ha:q1G a with
 | false=>
  obtain ⟨e0,e1⟩:=z2Z (a:=a) (b:=b) (x:=x) (y:=y) (by rw [ha]; rfl);rw [e0,e1];go_enter Tryz.func65,Tryz.ntmps65;go_wp2_with fail;refine (z1M v a _ h).mono ?_;rw [ha];rintro e w1 ⟨rfl,hd1⟩;have HK:Hid (Below w.heap.size w w1):=hd1.below;clear h h2 hd1 e0 e1;go_wp2;go_ret2;exact ⟨_,rfl,(z1T w1).wide HK.out.size (Nat.le_refl _) (Nat.le_refl _),z1D HK.out (z1C _)⟩
 | true=>
  cases hb:q1G b with
  | false=>
   obtain ⟨e0,e1⟩:=z2Z (a:=a) (b:=b) (x:=x) (y:=y) (by rw [hb,Bool.and_false]; rfl);rw [e0,e1];go_enter Tryz.func65,Tryz.ntmps65;go_wp2_with fail;refine (z1M v a _ h).mono ?_;rw [ha];rintro e w1 ⟨rfl,hd1⟩;go_wp2_with fail;refine (z1M u b _ (h2.below hd1.below)).mono ?_;rw [hb];rintro e w2 ⟨rfl,hd2⟩;have HK:Hid (Below w.heap.size w w2):=z1D hd1.below hd2.below;clear h h2 hd1 hd2 e0 e1;go_wp2;go_ret2;exact ⟨_,rfl,(z1T w2).wide HK.out.size (Nat.le_refl _) (Nat.le_refl _),z1D HK.out (z1C _)⟩
  | true=>
   cases hx:z2Y x with
   | false=>
    obtain ⟨e0,e1⟩:=z2Z (a:=a) (b:=b) (x:=x) (y:=y) (by simp [j5C,hx]);rw [e0,e1];go_enter Tryz.func65,Tryz.ntmps65;go_wp2_with fail;refine (z1M v a _ h).mono ?_;rw [ha];rintro e w1 ⟨rfl,hd1⟩;go_wp2_with fail;refine (z1M u b _ (h2.below hd1.below)).mono ?_;rw [hb];rintro e w2 ⟨rfl,hd2⟩;have HK:Hid (Below w.heap.size w w2):=z1D hd1.below hd2.below;clear h h2 hd1 hd2 e0 e1;go_wp2_with fail;refine (k2W x _).mono ?_;rw [hx];rintro e w3 ⟨rfl,rfl⟩;go_wp2;go_ret2;exact ⟨_,rfl,(z1T w3).wide HK.out.size (Nat.le_refl _) (Nat.le_refl _),z1D HK.out (z1C _)⟩
   | true=>
    cases hy:z2Y y with
    | false=>
     obtain ⟨e0,e1⟩:=z2Z (a:=a) (b:=b) (x:=x) (y:=y) (by simp [j5C,hy]);rw [e0,e1];go_enter Tryz.func65,Tryz.ntmps65;go_wp2_with fail;refine (z1M v a _ h).mono ?_;rw [ha];rintro e w1 ⟨rfl,hd1⟩;go_wp2_with fail;refine (z1M u b _ (h2.below hd1.below)).mono ?_;rw [hb];rintro e w2 ⟨rfl,hd2⟩;have HK:Hid (Below w.heap.size w w2):=z1D hd1.below hd2.below;clear h h2 hd1 hd2 e0 e1;go_wp2_with fail;refine (k2W x _).mono ?_;rw [hx];rintro e w3 ⟨rfl,rfl⟩;go_wp2_with fail;refine (k2W y _).mono ?_;rw [hy];rintro e w3 ⟨rfl,rfl⟩;go_wp2;go_ret2;exact ⟨_,rfl,(z1T w3).wide HK.out.size (Nat.le_refl _) (Nat.le_refl _),z1D HK.out (z1C _)⟩
    | true=>
     have hx':=hx;have hy':=hy;unfold z2Y at hx' hy';simp only [decide_eq_true_eq] at hx' hy';obtain ⟨xn,rfl⟩:=Int.eq_ofNat_of_zero_le hx'.1;obtain ⟨yn,rfl⟩:=Int.eq_ofNat_of_zero_le hy'.1;have hcan:j5C a b xn yn=j1E a b xn yn:=both_can (by omega) (by omega);obtain ⟨os,HO⟩:∃ os,Hid (os=v1O a b xn yn):=⟨_,rfl⟩;obtain ⟨c,HC⟩:∃ c,Hid (c=z2Q a b xn yn):=⟨_,rfl⟩;rw [<-HO.out,<-HC.out];go_enter Tryz.func65,Tryz.ntmps65;go_wp2_with fail;refine (z1M v a _ h).mono ?_;rw [ha];rintro e w1 ⟨rfl,hd1⟩;go_wp2_with fail;refine (z1M u b _ (h2.below hd1.below)).mono ?_;rw [hb];rintro e w2 ⟨rfl,hd2⟩;have hk2:=z1D hd1.below hd2.below;go_wp2_with fail;refine (k2W xn _).mono ?_;rw [hx];rintro e w3 ⟨rfl,rfl⟩;go_wp2_with fail;refine (k2W yn _).mono ?_;rw [hy];rintro e w3 ⟨rfl,rfl⟩;go_wp2_with fail;refine (x5V v u a b xn yn _ (h.below hk2) (h2.below hk2) ha hb).mono ?_;rintro e w4 ⟨v4,rfl,hz4,hb4⟩;have hk4:=z1D hk2 hb4;have s2:=hk2.size;have s4:=hb4.size;clear h h2 hd1 hd2;cases hbh:j1E a b xn yn with
     | false=>
      obtain ⟨e0,e1⟩:=z2Z (a:=a) (b:=b) (x:=xn) (y:=yn) (by rw [hcan,hbh,Bool.and_false]);have HE0:Hid (c=false):=HC.out.trans e0;have HE1:Hid (os=[]):=HO.out.trans e1;have HK:Hid (Below w.heap.size w w4):=hk4;clear hz4 hb4 hk2 hk4 e0 e1;go_wp2;go_ret2;rw [HE0.out,HE1.out];exact ⟨_,rfl,(z1T w4).wide HK.out.size (Nat.le_refl _) (Nat.le_refl _),z1D HK.out (z1C _)⟩
     | true=>
      have Z4:=hz4 hbh;have e0:q1G (j1L [] (j1H a b xn yn))=c:=by rw [HC.out]; simp [z2Q,ha,hb,hcan,hbh]
      have e1:(if q1G (j1L [] (j1H a b xn yn)) then j1L [] (j1H a b xn yn) else [])=os:=by rw [HO.out]; simp [v1O,z2Q,ha,hb,hcan,hbh]
      go_wp2_with fail;refine (k1H v4 (j1L [] (j1H a b xn yn)) _ _ _ Z4 hb4.size).mono ?_;rw [e0] at *;rw [e1];rintro e w5 ⟨v5,rfl,Z5,hb5⟩;have HK:Hid (Below w.heap.size w w5):=z1D hk4 hb5;have R:Hid (z1V w5 w.heap.size w5.heap.size v5 os):=Z5.wide s2 (Nat.le_refl _) (Nat.le_refl _);clear Z4 Z5 hb4 hb5 hk2 hk4 hz4 e0 e1;go_wp2;go_ret2;exact ⟨_,rfl,R.out,HK.out⟩
end Go.Proofs.YtmjaepdplbgohaaGreatDoor
