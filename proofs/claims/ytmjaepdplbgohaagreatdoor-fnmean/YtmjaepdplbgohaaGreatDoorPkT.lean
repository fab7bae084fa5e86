/- Part of the proof of laws.FnMean: DrawSome, DrawBent, DrawMean. -/
import Derived.Test.YtmjaepdplbgohaaGreatDoorPkA
import Derived.Test.YtmjaepdplbgohaaGreatDoorPkS
import Derived.Test.YtmjaepdplbgohaaGreatDoorPkQ
import Derived.Test.YtmjaepdplbgohaaGreatDoorPkR
import Derived.Deep.DeepCutAuto
import Derived.Deep.CutBlock
import Derived.Test.YtmjaepdplbgohaaGreatDoorPkP
set_option maxRecDepth 100000
set_option maxHeartbeats 16000000
set_option linter.unusedVariables false
set_option linter.unusedSimpArgs false
namespace Go.Proofs.YtmjaepdplbgohaaGreatDoor.Kd
open Go.RowKit
theorem StA.over {w W X V:World} {g P A m m':Nat} {a:Pl (m+1)} {b:Pl (m'+1)} {va ka da vb kb db:Value} (h:StA w X g P A m a va ka da) (hgw:g<w.heap.size) (hp:PlT m' X (W.heap.size+1) b vb kb db) (hA:A<W.heap.size) (hV:X.setCells A 0 (z1J b.nd vb kb db)=V):StA w V g P A m' b vb kb db:=by
 have hg:=q1M A (z1J b.nd vb kb db) 0 X;have h4:=h.2.2.2;subst hV;exact ⟨h.1.new hgw hg (fun k e=>by simp only [Option.some.injEq] at e; omega),(hp.step hg (fun k e=>by simp only [Option.some.injEq] at e; omega)).lower (by omega),h.2.2.1.put _ rfl,h4⟩
theorem q2M (X:World):(X.alloc (.cells #[.int .i64 2,.int .i64 2] 3)).cell? ⟨X.heap.size,0,none⟩=some (.int .i64 2)/\(X.alloc (.cells #[.int .i64 2,.int .i64 2] 3)).cell? ⟨X.heap.size,1,none⟩=some (.int .i64 2):=⟨cell_at (alloc_at _ _) rfl,cell_at (alloc_at _ _) rfl⟩
theorem k3B (g P:Nat) (w:World) (hP:P<=1099510000000) (hrd:Rd w g P) :
  Calls Tryz.prog 17 #[.pointer (some ⟨g,0,none⟩)] w fun e w'=> ∃ (p:Pl (3+1)) (vc vk vd:Value),e = .returned (.agg (z1J p.nd vc vk vd).toArray)/\Pl.sz (3+1) p<=270/\PlT 3 w' (w.heap.size+1) p vc vk vd/\Rd w' g (P+60000)/\w.grownBy w' (some g):=by
 have hgw:=hrd.lt;have S0:=hidden (StR.start hrd);clear hrd;go_enter Tryz.func17,Tryz.ntmps17;go_wp2_with fail;refine (z1L g _ 4 _ (by omega) (by omega) (by omega) S0.out.1).mono ?_;rintro e w1 ⟨q4,hq0,hq4,rfl,hr9,hg9⟩;have S1:=hidden (S0.out.call hgw hg9 hr9);clear hr9 hg9 S0;have hwr1:IntKind.i64.wrap (1+q4)=1+q4:=by rw [wrap_small] <;> omega
 go_wp2_with fail;have hs1:w.heap.size<=w1.heap.size:=S1.out.2.1.size;refine (k3C l4Copy_any 3 g (P+1) (1+q4) w1 (by omega) (by omega) (by omega) (by decide) (by simp; omega) S1.out.1).mono ?_;rintro e w2 ⟨p,vc,vk,vd,wd,rfl,-,-,hzp,hpp,hr9,hg9⟩;obtain ⟨⟨_,ca,cc,rfl,_⟩,⟨_,ka,kc,rfl,_⟩,⟨_,da,dc,rfl,_⟩⟩:=id hpp.held.now;have S2:=hidden (S1.out.call hgw hg9 hr9);have HPP:=hidden hpp;have hzp':Pl.sz (3+1) p<=270:=by simpa using hzp
 clear hpp hr9 hg9 hzp S1;have HTH:Hid ((w2.alloc (.cells o19.toArray 31)).there w2.heap.size 0 (p19 p ca cc ka kc da dc).toArray.size):=(z1X w2 z19 rfl).there;have hii:(Tryz.prog.info? 31).map (·.size)=some (p19 p ca cc ka kc da dc).toArray.size:=by kernel_rfl
 have H1:Hid ((p19 p ca cc ka kc da dc).toArray.all (·.oneCell')=true):=j1W p.nd _ _ _ rfl rfl rfl;have hla:(Tryz.prog.info? 31).map (·.size)=some (p19 p ca cc ka kc da dc).length:=by kernel_rfl
 go_wp2_with (first | ((with_reducible refine wpList_store_mid rfl 31 (.tmp 3) (.tmp 11) rfl w2.heap.size 0 (p19 p ca cc ka kc da dc).toArray ?_ ?_ HTH.out hii H1.out ?_); rfl; rfl; generalize hW9:World.setCells _ _ _ _=W9; (have S3:=hidden (StR.keepW S2.out hgw HPP.out hs1 hW9)); (have HR3:Hid (W9.rangeAt w2.heap.size 0 (p19 p ca cc ka kc da dc)):=S3.out.2.2.1.range)) | ((with_reducible refine wpList_load_mid rfl 31 (.tmp 3) rfl w2.heap.size 0 ?_ (p19 p ca cc ka kc da dc) _ HR3.out Tryz.underlying31 ?_ hla ?_); rfl; rfl));have S4:=hidden (S3.out.below hgw (z1B (.cells #[.int .i64 2,.int .i64 2] 3)));refine (z3F 3 p ca ka da cc kc dc W9.heap.size _ S4.out.2.1.held.now (by omega) (by simp) (q2M W9).1 (q2M W9).2).mono ?_;rintro e w4 ⟨x,rfl,hb4⟩;have S5:=hidden (S4.out.below hgw hb4);clear S4 hb4 S3 HR3 hW9 S2 HPP HTH hii H1;generalize w2.heap.size=A at S5 ⊢;have hlp:=hla;have hzp:=hzp';by_cases hx:x<0
 ·
  go_wp2_with fail;have hs4:w.heap.size<=w4.heap.size:=S5.out.1.2.1.size;have hA4:A<w4.heap.size:=S5.out.2.2.1.lt;refine (k3C l4Copy_any 3 g (P+1+1000*3 ^ 3) 2 w4 (by omega) (by omega) (by omega) (by decide) (by simp; omega) S5.out.1.1).mono ?_;rintro e w5 ⟨q,vc,vk,vd,wd2,rfl,-,-,hzq,hpq,hr9,hg9⟩;obtain ⟨⟨_,ea,ec,rfl,_⟩,⟨_,fa,fc,rfl,_⟩,⟨_,ga,gc,rfl,_⟩⟩:=id hpq.held.now;have S6:=hidden (S5.out.call hgw hg9 hr9);have HPQ:=hidden hpq;have hzq':Pl.sz (3+1) q<=270:=by simpa using hzq
  have hzq:=hzq';clear hpq hr9 hg9 S5;have hlq:(Tryz.prog.info? 31).map (·.size)=some (p19 q ea ec fa fc ga gc).length:=by kernel_rfl
  have HTH:Hid (w5.there A 0 (p19 q ea ec fa fc ga gc).toArray.size):=S6.out.2.2.1.there;have hii:(Tryz.prog.info? 31).map (·.size)=some (p19 q ea ec fa fc ga gc).toArray.size:=by kernel_rfl
  have H1:Hid ((p19 q ea ec fa fc ga gc).toArray.all (·.oneCell')=true):=j1W q.nd _ _ _ rfl rfl rfl;go_wp2_with (first | ((with_reducible refine wpList_store_mid rfl 31 (.tmp 3) (.tmp 20) rfl A 0 (p19 q ea ec fa fc ga gc).toArray ?_ ?_ HTH.out hii H1.out ?_); rfl; rfl; generalize hW6:World.setCells _ _ _ _=W6; (have S8:=hidden (StA.over S6.out hgw HPQ.out hA4 hW6)); (have HR8:Hid (W6.rangeAt A 0 (p19 q ea ec fa fc ga gc)):=S8.out.2.2.1.range)) | ((with_reducible refine wpList_load_mid rfl 31 (.tmp 3) rfl A 0 ?_ (p19 q ea ec fa fc ga gc) _ HR8.out Tryz.underlying31 ?_ hlq ?_); rfl; rfl));clear HTH hii H1;have T4:=hidden (S8.out.below hgw (z1B (.cells #[.int .i64 2,.int .i64 2] 3)));refine (z3F 3 q ea fa ga ec fc gc W6.heap.size _ T4.out.2.1.held.now (by omega) (by simp) (q2M W6).1 (q2M W6).2).mono ?_;rintro e w7 ⟨y,rfl,hb7⟩;have S7:=hidden (T4.out.below hgw hb7);clear T4 hb7;by_cases hy:y<0
  ·
   have HLF:=hidden (PlT.leaf (n:=3) (lo:=w.heap.size+1) S7.out.1.2.2.lt (⟨1,0,⟨0,false,⟨0,0,0,0⟩,⟨0,0,0,0⟩⟩,[],0,0,[],0,0⟩:Nd) rfl rfl);have HTH:Hid (w7.there w.heap.size 0 (h19 1 0 (.slice none 0 0) 0 0 (.slice none 0 0) 0 0 (.slice none 0 0)).toArray.size):=S7.out.1.2.2.there;have hii:(Tryz.prog.info? 31).map (·.size)=some (h19 1 0 (.slice none 0 0) 0 0 (.slice none 0 0) 0 0 (.slice none 0 0)).toArray.size:=by kernel_rfl
   have H1:Hid ((h19 1 0 (.slice none 0 0) 0 0 (.slice none 0 0) 0 0 (.slice none 0 0)).toArray.all (·.oneCell')=true):=j1W (⟨1,0,⟨0,false,⟨0,0,0,0⟩,⟨0,0,0,0⟩⟩,[],0,0,[],0,0⟩:Nd) _ _ _ rfl rfl rfl;go_wp2_with ((with_reducible refine wpList_store_mid rfl 31 (.tmp 2) (.tmp 26) rfl w.heap.size 0 (h19 1 0 (.slice none 0 0) 0 0 (.slice none 0 0) 0 0 (.slice none 0 0)).toArray ?_ ?_ HTH.out hii H1.out ?_); rfl; rfl; generalize hW8:World.setCells _ _ _ _=W8);have HF:=hidden (StR.told (P':=P+60000) S7.out.1 hgw HLF.out (by omega) hW8);refine bodyPost_ret (v:=.agg (h19 1 0 (.slice none 0 0) 0 0 (.slice none 0 0) 0 0 (.slice none 0 0)).toArray) (v1R (a:=2) (t:=31) (ad:=⟨w.heap.size,0,none⟩) Tryz.results17 (by simp [Act.put]) (j1K HF.out.1)) (by simp [Act.put]) ?_;exact ⟨(Pl.mk (⟨1,0,⟨0,false,⟨0,0,0,0⟩,⟨0,0,0,0⟩⟩,[],0,0,[],0,0⟩:Nd) []:Pl (3+1)),(.slice none 0 0),(.slice none 0 0),(.slice none 0 0),rfl,(by rw [Pl.sz_succ]; simp [Pl.nd_mk,Pl.kids_mk]),HF.out.2.2.2,HF.out.2.1,HF.out.2.2.1⟩
  ·
   have hy':0<=y:=by omega
   have HR7:Hid (w7.rangeAt A 0 (p19 q ea ec fa fc ga gc)):=S7.out.2.2.1.range;have HTH:Hid (w7.there w.heap.size 0 (p19 q ea ec fa fc ga gc).toArray.size):=S7.out.1.2.2.there;have hii:(Tryz.prog.info? 31).map (·.size)=some (p19 q ea ec fa fc ga gc).toArray.size:=by kernel_rfl
   have H1:Hid ((p19 q ea ec fa fc ga gc).toArray.all (·.oneCell')=true):=j1W q.nd _ _ _ rfl rfl rfl;go_wp2_with (first | ((with_reducible refine wpList_store_mid rfl 31 (.tmp 2) (.tmp 27) rfl w.heap.size 0 (p19 q ea ec fa fc ga gc).toArray ?_ ?_ HTH.out hii H1.out ?_); rfl; rfl; generalize hW8:World.setCells _ _ _ _=W8) | ((with_reducible refine wpList_load_mid rfl 31 (.tmp 3) rfl A 0 ?_ (p19 q ea ec fa fc ga gc) _ HR7.out Tryz.underlying31 ?_ hlq ?_); rfl; rfl));have HF:=hidden (StR.told (P':=P+60000) S7.out.1 hgw S7.out.2.1 (by omega) hW8);refine bodyPost_ret (v:=.agg (p19 q ea ec fa fc ga gc).toArray) (v1R (a:=2) (t:=31) (ad:=⟨w.heap.size,0,none⟩) Tryz.results17 (by simp [Act.put]) (j1K HF.out.1)) (by simp [Act.put]) ?_;exact ⟨q,(.slice ea q.nd.cs.length ec),(.slice fa q.nd.ks.length fc),(.slice ga q.kids.length gc),rfl,hzq,HF.out.2.2.2,HF.out.2.1,HF.out.2.2.1⟩
 ·
  have hx':0<=x:=by omega
  have HR5:Hid (w4.rangeAt A 0 (p19 p ca cc ka kc da dc)):=S5.out.2.2.1.range;go_wp2_with ((with_reducible refine wpList_load_mid rfl 31 (.tmp 3) rfl A 0 ?_ (p19 p ca cc ka kc da dc) _ HR5.out Tryz.underlying31 ?_ hlp ?_); rfl; rfl);have T4:=hidden (S5.out.below hgw (z1B (.cells #[.int .i64 2,.int .i64 2] 3)));refine (z3F 3 p ca ka da cc kc dc w4.heap.size _ T4.out.2.1.held.now (by omega) (by simp) (q2M w4).1 (q2M w4).2).mono ?_;rintro e w7 ⟨y,rfl,hb7⟩;have S7:=hidden (T4.out.below hgw hb7);clear T4 hb7;by_cases hy:y<0
  ·
   have HLF:=hidden (PlT.leaf (n:=3) (lo:=w.heap.size+1) S7.out.1.2.2.lt (⟨1,0,⟨0,false,⟨0,0,0,0⟩,⟨0,0,0,0⟩⟩,[],0,0,[],0,0⟩:Nd) rfl rfl);have HTH:Hid (w7.there w.heap.size 0 (h19 1 0 (.slice none 0 0) 0 0 (.slice none 0 0) 0 0 (.slice none 0 0)).toArray.size):=S7.out.1.2.2.there;have hii:(Tryz.prog.info? 31).map (·.size)=some (h19 1 0 (.slice none 0 0) 0 0 (.slice none 0 0) 0 0 (.slice none 0 0)).toArray.size:=by kernel_rfl
   have H1:Hid ((h19 1 0 (.slice none 0 0) 0 0 (.slice none 0 0) 0 0 (.slice none 0 0)).toArray.all (·.oneCell')=true):=j1W (⟨1,0,⟨0,false,⟨0,0,0,0⟩,⟨0,0,0,0⟩⟩,[],0,0,[],0,0⟩:Nd) _ _ _ rfl rfl rfl;go_wp2_with ((with_reducible refine wpList_store_mid rfl 31 (.tmp 2) (.tmp 26) rfl w.heap.size 0 (h19 1 0 (.slice none 0 0) 0 0 (.slice none 0 0) 0 0 (.slice none 0 0)).toArray ?_ ?_ HTH.out hii H1.out ?_); rfl; rfl; generalize hW8:World.setCells _ _ _ _=W8);have HF:=hidden (StR.told (P':=P+60000) S7.out.1 hgw HLF.out (by omega) hW8);refine bodyPost_ret (v:=.agg (h19 1 0 (.slice none 0 0) 0 0 (.slice none 0 0) 0 0 (.slice none 0 0)).toArray) (v1R (a:=2) (t:=31) (ad:=⟨w.heap.size,0,none⟩) Tryz.results17 (by simp [Act.put]) (j1K HF.out.1)) (by simp [Act.put]) ?_;exact ⟨(Pl.mk (⟨1,0,⟨0,false,⟨0,0,0,0⟩,⟨0,0,0,0⟩⟩,[],0,0,[],0,0⟩:Nd) []:Pl (3+1)),(.slice none 0 0),(.slice none 0 0),(.slice none 0 0),rfl,(by rw [Pl.sz_succ]; simp [Pl.nd_mk,Pl.kids_mk]),HF.out.2.2.2,HF.out.2.1,HF.out.2.2.1⟩
  ·
   have hy':0<=y:=by omega
   have HR7:Hid (w7.rangeAt A 0 (p19 p ca cc ka kc da dc)):=S7.out.2.2.1.range;have HTH:Hid (w7.there w.heap.size 0 (p19 p ca cc ka kc da dc).toArray.size):=S7.out.1.2.2.there;have hii:(Tryz.prog.info? 31).map (·.size)=some (p19 p ca cc ka kc da dc).toArray.size:=by kernel_rfl
   have H1:Hid ((p19 p ca cc ka kc da dc).toArray.all (·.oneCell')=true):=j1W p.nd _ _ _ rfl rfl rfl;go_wp2_with (first | ((with_reducible refine wpList_store_mid rfl 31 (.tmp 2) (.tmp 27) rfl w.heap.size 0 (p19 p ca cc ka kc da dc).toArray ?_ ?_ HTH.out hii H1.out ?_); rfl; rfl; generalize hW8:World.setCells _ _ _ _=W8) | ((with_reducible refine wpList_load_mid rfl 31 (.tmp 3) rfl A 0 ?_ (p19 p ca cc ka kc da dc) _ HR7.out Tryz.underlying31 ?_ hlp ?_); rfl; rfl));have HF:=hidden (StR.told (P':=P+60000) S7.out.1 hgw S7.out.2.1 (by omega) hW8);refine bodyPost_ret (v:=.agg (p19 p ca cc ka kc da dc).toArray) (v1R (a:=2) (t:=31) (ad:=⟨w.heap.size,0,none⟩) Tryz.results17 (by simp [Act.put]) (j1K HF.out.1)) (by simp [Act.put]) ?_;exact ⟨p,(.slice ca p.nd.cs.length cc),(.slice ka p.nd.ks.length kc),(.slice da p.kids.length dc),rfl,hzp,HF.out.2.2.2,HF.out.2.1,HF.out.2.2.1⟩
theorem StR.keepP {w W X V:World} {g P m:Nat} {a:Pl (m+1)} {va ka da:Value} (h:StR w X g P) (hgw:g<w.heap.size) (hp:PlT m X (W.heap.size+1) a va ka da) (hW:w.heap.size<=W.heap.size) (hV:(X.alloc (.cells z19.toArray 31)).setCells X.heap.size 0 (z1J a.nd va ka da)=V):∃ hi,StP w V g P hi X.heap.size m a va ka da:=by
 obtain ⟨hi,x,q⟩:=hp.lower (by omega:w.heap.size+1<=W.heap.size+1);have hq:=q.2.1;have q1:PlH m X (w.heap.size+1) hi X.heap.size a va ka da:=⟨q.1,q.2.1,fun Y hY=>q.2.2.1 Y ((hY.low (Nat.le_refl _) (.inr hq)).x (Nat.le_refl _)),q.2.2.2⟩;subst hV;refine ⟨hi,h.fresh hgw _,(q1.step (World.grownBy_alloc X _ none) (fun k e=>by cases e)).step (q1M X.heap.size (z1J a.nd va ka da) 0 _) (fun k e=> ?_),(z1X X z19 rfl).put _ rfl,h.2.2.lt⟩;simp only [Option.some.injEq] at e;exact .inr ⟨.inr e.symm,_,by rw [<-e]; exact (z1X X z19 rfl).1⟩
theorem StP.setF {w X:World} {g P hi Pb n:Nat} {p:Pl (n+1)} {vc vk vd:Value} (h:StP w X g P hi Pb n p vc vk vd) (hgw:g<w.heap.size) (j:Nat) (u:Value) (d:Nd) (hc:d.cs=p.nd.cs) (hk:d.ks=p.nd.ks) (he:(z1J p.nd vc vk vd).set j u=z1J d vc vk vd):StP w (X.setCell ⟨Pb,j,none⟩ u) g P hi Pb n (Pl.mk d p.kids) vc vk vd:=by
 obtain ⟨hR,hH,hB,hP⟩:=h;have hg:=j1O X Pb j u;refine ⟨hR.new hgw hg (fun k e=>by simp only [Option.some.injEq] at e; omega),(hH.nd d hc hk).step hg (fun k e=> ?_),?_,hP⟩
 ·
  simp only [Option.some.injEq] at e;exact .inr ⟨.inr e.symm,_,by rw [<-e]; exact hB.1⟩
 ·
  have:=hB.put1 j u;rw [he] at this;exact this
theorem StP.wrap {w X V:World} {g P hi Pb n:Nat} {p:Pl (n+1)} {vc vk vd:Value} (h:StP w X g P hi Pb n p vc vk vd) (hgw:g<w.heap.size) (d:Nd) (hc:d.cs=[]) (hk:d.ks=[]) (hV:(X.alloc (.cells (z1J p.nd vc vk vd).toArray 31)).setCells Pb 0 (z1J d (.slice none 0 0) (.slice none 0 0) (.slice (some ⟨X.heap.size,0,none⟩) 1 1))=V) :
  StP w V g P V.heap.size Pb (n+1) (Pl.mk d [p]) (.slice none 0 0) (.slice none 0 0) (.slice (some ⟨X.heap.size,0,none⟩) 1 1):=by
 obtain ⟨hR,hH,hB,hP⟩:=h;have hlt:=hB.lt;have g1:X.grownBy (X.alloc (.cells (z1J p.nd vc vk vd).toArray 31)) none:=World.grownBy_alloc _ _ _;have g2:=q1M Pb (z1J d (.slice none 0 0) (.slice none 0 0) (.slice (some ⟨X.heap.size,0,none⟩) 1 1)) 0 (X.alloc (.cells (z1J p.nd vc vk vd).toArray 31));have b1:=(z1X X (z1J p.nd vc vk vd) rfl).past (b:=Pb) (us:=z1J d (.slice none 0 0) (.slice none 0 0) (.slice (some ⟨X.heap.size,0,none⟩) 1 1)) (by omega) rfl;have ax:AgX (w.heap.size+1) X.heap.size Pb X ((X.alloc (.cells (z1J p.nd vc vk vd).toArray 31)).setCells Pb 0 (z1J d (.slice none 0 0) (.slice none 0 0) (.slice (some ⟨X.heap.size,0,none⟩) 1 1))):=
  (AgX.grown g1 (Nat.le_refl _) fun k e=>by cases e).trans (AgX.grown g2 g1.size fun k e=>by simp only [Option.some.injEq] at e; exact .inr (.inr e.symm))
 have hs:=b1.lt;subst hV;refine ⟨(hR.new hgw g1 (fun k e=>by cases e)).new hgw g2 (fun k e=>by simp only [Option.some.injEq] at e; omega),⟨by omega,Nat.le_refl _,fun Y hY=> ?_,?_,?_⟩,(hB.allocG _).put _ rfl,hP⟩
 ·
  have hbY:=(hY.2 X.heap.size (by omega) hs (by omega)).trans b1.1;have hXY:AgX (w.heap.size+1) X.heap.size Pb X Y:=ax.trans ⟨Nat.le_trans (Nat.le_of_lt hs) hY.1,fun i h1 h2 h3=>hY.2 i h1 (by omega) h3⟩;show v2X (NodeAt (n+1)) Y _ [p];refine ⟨by simp,_,1,rfl,fun e=>(by cases e),fun _=>⟨X.heap.size,0,rfl,q2Q hbY,fun j hj=> ?_⟩⟩;obtain rfl:j=0:=by simpa using hj
  refine ⟨q2Q hbY,vc,vk,vd,x2O.of (x2C hbY fun j u hu=>by simpa using hu),q1J.of_owns (v2S hH.2.2.2.1 fun k e=> ?_),RawInts.of_owns (v2S hH.2.2.2.2 fun k e=> ?_),hH.2.2.1 Y ⟨Nat.le_trans hH.2.1 hXY.1,fun i h1 h2 h3=>hXY.2 i h1 (by have:=hH.2.1; omega) h3⟩⟩
  ·
   have h1:=hH.2.2.2.1.lt k e;have h2:=hH.1;exact hXY.2 k (by omega) h1.2 (fun e2=>j2C hH.2.2.2.1 hB.1 (by decide) (by rw [e,e2]))
  ·
   have h1:=hH.2.2.2.2.lt k e;have h2:=hH.1;exact hXY.2 k (by omega) h1.2 (fun e2=>j2C hH.2.2.2.2 hB.1 (by decide) (by rw [e,e2]))
 ·
  rw [Pl.nd_mk,hc]; exact World.ownsRow_nil _ _ _ _
 ·
  rw [Pl.nd_mk,hk]; exact World.ownsRow_nil _ _ _ _
theorem sz_nd {n:Nat} (p:Pl (n+1)) (d:Nd) (hc:d.cs=p.nd.cs) (hk:d.ks=p.nd.ks):Pl.sz (n+1) (Pl.mk d p.kids)=Pl.sz (n+1) p:=by
 rw [Pl.sz_succ,Pl.sz_succ,Pl.nd_mk,Pl.kids_mk,hc,hk]
theorem x5X (g P:Nat) (w:World) (hP:P<=1099500000000) (hrd:Rd w g P) :
  Calls Tryz.prog 19 #[.pointer (some ⟨g,0,none⟩)] w fun e w'=> ∃ (n:Nat) (p:Pl (n+1)) (vc vk vd:Value),e = .returned (.agg (z1J p.nd vc vk vd).toArray)/\n<=9/\Pl.sz (n+1) p<=300/\PlT n w' (w.heap.size+1) p vc vk vd/\Rd w' g (P+70000)/\w.grownBy w' (some g):=by
 have hgw:=hrd.lt;have S0:=hidden (StR.start hrd);clear hrd;go_enter Tryz.func19,Tryz.ntmps19;go_wp2_with fail;refine (k3B g P _ (by omega) S0.out.1).mono ?_;rintro e w2 ⟨p,vc,vk,vd,rfl,hzs,hpp,hr9,hg9⟩;obtain ⟨⟨_,ca,cc,rfl,_⟩,⟨_,ka,kc,rfl,_⟩,⟨_,da,dc,rfl,_⟩⟩:=id hpp.held.now;have S2:=hidden (S0.out.call hgw hg9 hr9);have HPP:=hidden hpp;clear hpp hr9 hg9 S0;have HTH:Hid ((w2.alloc (.cells o19.toArray 31)).there w2.heap.size 0 (p19 p ca cc ka kc da dc).toArray.size):=(z1X w2 z19 rfl).there;have hii:(Tryz.prog.info? 31).map (·.size)=some (p19 p ca cc ka kc da dc).toArray.size:=by kernel_rfl
 have H1:Hid ((p19 p ca cc ka kc da dc).toArray.all (·.oneCell')=true):=j1W p.nd _ _ _ rfl rfl rfl;go_wp2_with ((with_reducible refine wpList_store_mid rfl 31 (.tmp 3) (.tmp 6) rfl w2.heap.size 0 (p19 p ca cc ka kc da dc).toArray ?_ ?_ HTH.out hii H1.out ?_); rfl; rfl; generalize hW9:World.setCells _ _ _ _=W9);obtain ⟨hi,S3⟩:=StR.keepP S2.out hgw HPP.out (by simp) hW9;clear HTH hii H1 hW9 S2 HPP;refine (z1L g _ 60 _ (by omega) (by omega) (by omega) S3.1.1).mono ?_;rintro e w4 ⟨q,q0,q60,rfl,hr9,hg9⟩;have S4:=hidden (S3.call hgw hg9 hr9);generalize w2.heap.size=A at S4 ⊢;clear S3 hr9 hg9;have hs4:g<w4.heap.size:=Nat.lt_of_lt_of_le hgw S4.out.1.2.1.size;go_upto_block 0 with fail
 go_cut [3] (fun pv wx=>pv = .pointer (some ⟨A,0,none⟩)/\∃ (n:Nat) (p:Pl (n+1)) (vc vk vd:Value) (hi:Nat),n<=9/\Pl.sz (n+1) p<=300/\Hid (StP w wx g (P+69000) hi A n p vc vk vd))
 case first=>
  by_cases h0:q=0
  ·
   subst h0;have hlit:=v1K w4 [0,8,5,1] (by simp);have T4:=hidden (S4.out.below hgw (z1B (.cells #[.int .i64 0,.int .i64 8,.int .i64 5,.int .i64 1] 3)));go_wp2_with fail;refine (k1G g _ _ _ _ _ _ (by omega) T4.out.1.1 hlit (by omega) (by simp) (by simp)).mono ?_;rintro e w5 ⟨z,hz,rfl,hr9,hg9⟩;have S5:=hidden (T4.out.call hgw hg9 hr9);have cF:=S5.out.2.2.1.cell (j:=0) rfl;have fF:=S5.out.2.2.1.frozen 0;have S6:=hidden (S5.out.setF hgw 0 (.int .i64 z) ({ p.nd with k:=z }:Nd) rfl rfl rfl);clear hr9 hg9 T4 S5 hlit hz;go_wp2_with fail;go_meet
   case rel=>exact ⟨rfl,3,_,_,_,_,_,by omega,by rw [sz_nd p ({ p.nd with k:=z }:Nd) rfl rfl]; omega,⟨S6.out.1.le (by omega),S6.out.2⟩⟩
  have h0f:(q==0)=false:=by simp [h0]
  by_cases h1:q=1
  ·
   subst h1;have hlit:=v1K w4 [-1,3,1] (by simp);have T4:=hidden (S4.out.below hgw (z1B (.cells #[.int .i64 (-1),.int .i64 3,.int .i64 1] 3)));go_wp2_with fail;refine (k1G g _ _ _ _ _ _ (by omega) T4.out.1.1 hlit (by omega) (by simp) (by simp)).mono ?_;rintro e w5 ⟨z,hz,rfl,hr9,hg9⟩;have S5:=hidden (T4.out.call hgw hg9 hr9);have cF:=S5.out.2.2.1.cell (j:=1) rfl;have fF:=S5.out.2.2.1.frozen 1;have S6:=hidden (S5.out.setF hgw 1 (.int .i64 z) ({ p.nd with n:=z }:Nd) rfl rfl rfl);clear hr9 hg9 T4 S5 hlit hz;go_wp2_with fail;go_meet
   case rel=>exact ⟨rfl,3,_,_,_,_,_,by omega,by rw [sz_nd p ({ p.nd with n:=z }:Nd) rfl rfl]; omega,⟨S6.out.1.le (by omega),S6.out.2⟩⟩
  have h1f:(q==1)=false:=by simp [h1]
  by_cases h2:q=2
  ·
   subst h2;have hlit:=v1K w4 [-1,6,1] (by simp);have T4:=hidden (S4.out.below hgw (z1B (.cells #[.int .i64 (-1),.int .i64 6,.int .i64 1] 3)));go_wp2_with fail;refine (k1G g _ _ _ _ _ _ (by omega) T4.out.1.1 hlit (by omega) (by simp) (by simp)).mono ?_;rintro e w5 ⟨z,hz,rfl,hr9,hg9⟩;have S5:=hidden (T4.out.call hgw hg9 hr9);have cF:=S5.out.2.2.1.cell (j:=13) rfl;have fF:=S5.out.2.2.1.frozen 13;have S6:=hidden (S5.out.setF hgw 13 (.int .i64 z) ({ p.nd with a:=z }:Nd) rfl rfl rfl);clear hr9 hg9 T4 S5 hlit hz;go_wp2_with fail;go_meet
   case rel=>exact ⟨rfl,3,_,_,_,_,_,by omega,by rw [sz_nd p ({ p.nd with a:=z }:Nd) rfl rfl]; omega,⟨S6.out.1.le (by omega),S6.out.2⟩⟩
  have h2f:(q==2)=false:=by simp [h2]
  by_cases h3:q=3
  ·
   subst h3;obtain ⟨j0,hj0,hy0,hy1,hy2⟩:=info_parts infoInt;have SD:=hidden (S4.out.below hgw (below_drewN (Below.refl _ _) 1));have hlk:p.nd.ks.length<=270/\p.nd.cs.length<=270:=by have h:=hzs; rw [Pl.sz_succ] at h; omega
   go_wp2_with fail;refine wp_region_held_drew (S:=(fun _:World=>True)) (by kernel_rfl) ?_ (fun hHeld=> ?_)
   ·
    (try dsimp only); (try trivial)
   refine tk 0 ?_; go_simp;refine tk 2 ?_; go_simp;refine tk 4 ?_; go_simp;refine wpAnyH_ready (rs:=[1,3]) (by kernel_rfl) (by simp) ?_;refine AllReadyH.cons rfl (fun K hK=> ?_) (AllReadyH.cons rfl (fun K hK=> ?_) AllReadyH.nil)
   ·
    have c0:=S4.out.2.2.1.cell (j:=15) rfl;go_simp;refine hK.out _ _ ?_ (fun hHeld=> ?_)
    ·
     (try dsimp only); (try trivial)
    clear hK K;try go_simp
    refine r1 3 (fun K hK=> ?_);go_simp;(go_at_call 18; refine (z1L g _ 2 _ (by omega) (by omega) (by omega) SD.out.1.1).mono ?_; rintro e wx ⟨x,x0,x1,rfl,hr9,hg9⟩);have S7:=hidden (SD.out.call hgw hg9 hr9);clear hr9 hg9;refine hK.out _ _ ?_ (fun hHeld=> ?_)
    ·
     (try dsimp only); (try trivial)
    clear hK K;try go_simp
    refine r1 5 (fun K hK=> ?_);go_simp;(go_at_call 18; refine (z1L g _ 2 _ (by omega) (by omega) (by omega) S7.out.1.1).mono ?_; rintro e wy ⟨y,y0,y1,rfl,hr9,hg9⟩);have S8:=hidden (S7.out.call hgw hg9 hr9);clear hr9 hg9;refine hK.out _ _ ?_ (fun hHeld=> ?_)
    ·
     (try dsimp only); (try trivial)
    clear hK K;try go_simp
    refine r1 6 (fun K hK=> ?_);go_simp;have SK:=hidden (S8.out.below hgw (z1B (.cells #[.int .i64 x,.int .i64 y] 3)));refine hK.out _ _ ?_ (fun hHeld=> ?_)
    ·
     (try dsimp only); (try trivial)
    clear hK K;try go_simp
    refine r1 7 (fun K hK=> ?_);have hbs:=SK.out.2.1.2.1;refine q1I rfl (wp_append_own _ (.tmp 30) (.tmp 35) 28 rfl hi 3 j0 (.int .i64 0) 1 8 Tryz.underlying28 hj0 hy0 hy1 hy2 rfl (by decide) (.slice ka p.nd.ks.length kc) p.nd.ks.length (p.nd.ks.map (Value.int .i64)) (by simp [Act.eval]) SK.out.2.1.2.2.2.2 ⟨wy.heap.size,0,none⟩ 2 2 [.int .i64 x,.int .i64 y] (by simp [Act.eval]) rfl (fun j u hj=>by match j,hj with | 0,hj=>simp at hj; subst hj; simp [Addr.add] | 1,hj=>simp at hj; subst hj; simp [Addr.add] | j+2,hj=>simp at hj) (fun u hu=>by simp at hu; rcases hu with rfl | rfl <;> rfl) (by unfold maxLen; omega) (by omega) hbs ?_);intro vk' w6 hown6 hgrow6 _;obtain ⟨ub,ud,rfl⟩:=q1H hown6;obtain ⟨B6,R6,S6⟩:=SK.out.keys hgw hgrow6 [x,y] hown6;have HS6:=hidden S6;have c15':=B6.cell (j:=15) rfl;have fz:=B6.frozen 15;clear hown6 hgrow6 S6 R6 hbs;refine hK.out _ _ ?_ (fun hHeld=> ?_)
    ·
     (try dsimp only); (try trivial)
    clear hK K;try go_simp
    refine tk 8 ?_; go_simp;refine r1 9 (fun K hK=> ?_);go_simp;refine hK.out _ _ ?_ (fun hHeld=> ?_)
    ·
     (try dsimp only); (try trivial)
    clear hK K;try simp only [Act.put]
    refine dn ?_;clear hHeld B6 c15' fz;go_wp2_with fail;go_meet
    case rel=>exact ⟨rfl,3,_,_,_,_,_,by omega,by have h:=hzs; simp only [Pl.sz_succ,Pl.nd_mk,Pl.kids_mk,List.length_append,List.length_cons,List.length_nil] at h ⊢; omega,⟨HS6.out.1.le (by omega),HS6.out.2⟩⟩
   ·
    go_simp;(go_at_call 18; refine (z1L g _ 2 _ (by omega) (by omega) (by omega) SD.out.1.1).mono ?_; rintro e wx ⟨x,x0,x1,rfl,hr9,hg9⟩);have S7:=hidden (SD.out.call hgw hg9 hr9);clear hr9 hg9;refine hK.out _ _ ?_ (fun hHeld=> ?_)
    ·
     (try dsimp only); (try trivial)
    clear hK K;try go_simp
    refine wpAnyH_ready (rs:=[1,5]) (by kernel_rfl) (by simp) ?_;refine AllReadyH.cons rfl (fun K hK=> ?_) (AllReadyH.cons rfl (fun K hK=> ?_) AllReadyH.nil)
    ·
     have c3:=S7.out.2.2.1.cell (j:=15) rfl;go_simp;refine hK.out _ _ ?_ (fun hHeld=> ?_)
     ·
      (try dsimp only); (try trivial)
     clear hK K;try go_simp
     refine r1 5 (fun K hK=> ?_);go_simp;(go_at_call 18; refine (z1L g _ 2 _ (by omega) (by omega) (by omega) S7.out.1.1).mono ?_; rintro e wy ⟨y,y0,y1,rfl,hr9,hg9⟩);have S8:=hidden (S7.out.call hgw hg9 hr9);clear hr9 hg9;refine hK.out _ _ ?_ (fun hHeld=> ?_)
     ·
      (try dsimp only); (try trivial)
     clear hK K;try go_simp
     refine r1 6 (fun K hK=> ?_);go_simp;have SK:=hidden (S8.out.below hgw (z1B (.cells #[.int .i64 x,.int .i64 y] 3)));refine hK.out _ _ ?_ (fun hHeld=> ?_)
     ·
      (try dsimp only); (try trivial)
     clear hK K;try go_simp
     refine r1 7 (fun K hK=> ?_);have hbs:=SK.out.2.1.2.1;refine q1I rfl (wp_append_own _ (.tmp 30) (.tmp 35) 28 rfl hi 3 j0 (.int .i64 0) 1 8 Tryz.underlying28 hj0 hy0 hy1 hy2 rfl (by decide) (.slice ka p.nd.ks.length kc) p.nd.ks.length (p.nd.ks.map (Value.int .i64)) (by simp [Act.eval]) SK.out.2.1.2.2.2.2 ⟨wy.heap.size,0,none⟩ 2 2 [.int .i64 x,.int .i64 y] (by simp [Act.eval]) rfl (fun j u hj=>by match j,hj with | 0,hj=>simp at hj; subst hj; simp [Addr.add] | 1,hj=>simp at hj; subst hj; simp [Addr.add] | j+2,hj=>simp at hj) (fun u hu=>by simp at hu; rcases hu with rfl | rfl <;> rfl) (by unfold maxLen; omega) (by omega) hbs ?_);intro vk' w6 hown6 hgrow6 _;obtain ⟨ub,ud,rfl⟩:=q1H hown6;obtain ⟨B6,R6,S6⟩:=SK.out.keys hgw hgrow6 [x,y] hown6;have HS6:=hidden S6;have c15':=B6.cell (j:=15) rfl;have fz:=B6.frozen 15;clear hown6 hgrow6 S6 R6 hbs;refine hK.out _ _ ?_ (fun hHeld=> ?_)
     ·
      (try dsimp only); (try trivial)
     clear hK K;try go_simp
     refine tk 8 ?_; go_simp;refine r1 9 (fun K hK=> ?_);go_simp;refine hK.out _ _ ?_ (fun hHeld=> ?_)
     ·
      (try dsimp only); (try trivial)
     clear hK K;try simp only [Act.put]
     refine dn ?_;clear hHeld B6 c15' fz;go_wp2_with fail;go_meet
     case rel=>exact ⟨rfl,3,_,_,_,_,_,by omega,by have h:=hzs; simp only [Pl.sz_succ,Pl.nd_mk,Pl.kids_mk,List.length_append,List.length_cons,List.length_nil] at h ⊢; omega,⟨HS6.out.1.le (by omega),HS6.out.2⟩⟩
    ·
     go_simp;(go_at_call 18; refine (z1L g _ 2 _ (by omega) (by omega) (by omega) S7.out.1.1).mono ?_; rintro e wy ⟨y,y0,y1,rfl,hr9,hg9⟩);have S8:=hidden (S7.out.call hgw hg9 hr9);clear hr9 hg9;refine hK.out _ _ ?_ (fun hHeld=> ?_)
     ·
      (try dsimp only); (try trivial)
     clear hK K;try go_simp
     refine wpAnyH_ready (rs:=[1,6]) (by kernel_rfl) (by simp) ?_;refine AllReadyH.cons rfl (fun K hK=> ?_) (AllReadyH.cons rfl (fun K hK=> ?_) AllReadyH.nil)
     ·
      have c3:=S7.out.2.2.1.cell (j:=15) rfl;have c5:=S8.out.2.2.1.cell (j:=15) rfl;go_simp;refine hK.out _ _ ?_ (fun hHeld=> ?_)
      ·
       (try dsimp only); (try trivial)
      clear hK K;try go_simp
      refine r1 6 (fun K hK=> ?_);go_simp;have SK:=hidden (S8.out.below hgw (z1B (.cells #[.int .i64 x,.int .i64 y] 3)));refine hK.out _ _ ?_ (fun hHeld=> ?_)
      ·
       (try dsimp only); (try trivial)
      clear hK K;try go_simp
      refine r1 7 (fun K hK=> ?_);have hbs:=SK.out.2.1.2.1;refine q1I rfl (wp_append_own _ (.tmp 30) (.tmp 35) 28 rfl hi 3 j0 (.int .i64 0) 1 8 Tryz.underlying28 hj0 hy0 hy1 hy2 rfl (by decide) (.slice ka p.nd.ks.length kc) p.nd.ks.length (p.nd.ks.map (Value.int .i64)) (by simp [Act.eval]) SK.out.2.1.2.2.2.2 ⟨wy.heap.size,0,none⟩ 2 2 [.int .i64 x,.int .i64 y] (by simp [Act.eval]) rfl (fun j u hj=>by match j,hj with | 0,hj=>simp at hj; subst hj; simp [Addr.add] | 1,hj=>simp at hj; subst hj; simp [Addr.add] | j+2,hj=>simp at hj) (fun u hu=>by simp at hu; rcases hu with rfl | rfl <;> rfl) (by unfold maxLen; omega) (by omega) hbs ?_);intro vk' w6 hown6 hgrow6 _;obtain ⟨ub,ud,rfl⟩:=q1H hown6;obtain ⟨B6,R6,S6⟩:=SK.out.keys hgw hgrow6 [x,y] hown6;have HS6:=hidden S6;have c15':=B6.cell (j:=15) rfl;have fz:=B6.frozen 15;clear hown6 hgrow6 S6 R6 hbs;refine hK.out _ _ ?_ (fun hHeld=> ?_)
      ·
       (try dsimp only); (try trivial)
      clear hK K;try go_simp
      refine tk 8 ?_; go_simp;refine r1 9 (fun K hK=> ?_);go_simp;refine hK.out _ _ ?_ (fun hHeld=> ?_)
      ·
       (try dsimp only); (try trivial)
      clear hK K;try simp only [Act.put]
      refine dn ?_;clear hHeld B6 c15' fz;go_wp2_with fail;go_meet
      case rel=>exact ⟨rfl,3,_,_,_,_,_,by omega,by have h:=hzs; simp only [Pl.sz_succ,Pl.nd_mk,Pl.kids_mk,List.length_append,List.length_cons,List.length_nil] at h ⊢; omega,⟨HS6.out.1.le (by omega),HS6.out.2⟩⟩
     ·
      go_simp;have SK:=hidden (S8.out.below hgw (z1B (.cells #[.int .i64 x,.int .i64 y] 3)));refine hK.out _ _ ?_ (fun hHeld=> ?_)
      ·
       (try dsimp only); (try trivial)
      clear hK K;try go_simp
      refine r1 1 (fun K hK=> ?_);have c3:=S7.out.2.2.1.cell (j:=15) rfl;have c5:=S8.out.2.2.1.cell (j:=15) rfl;have c6:=SK.out.2.2.1.cell (j:=15) rfl;go_simp;refine hK.out _ _ ?_ (fun hHeld=> ?_)
      ·
       (try dsimp only); (try trivial)
      clear hK K;try go_simp
      refine r1 7 (fun K hK=> ?_);have hbs:=SK.out.2.1.2.1;refine q1I rfl (wp_append_own _ (.tmp 30) (.tmp 35) 28 rfl hi 3 j0 (.int .i64 0) 1 8 Tryz.underlying28 hj0 hy0 hy1 hy2 rfl (by decide) (.slice ka p.nd.ks.length kc) p.nd.ks.length (p.nd.ks.map (Value.int .i64)) (by simp [Act.eval]) SK.out.2.1.2.2.2.2 ⟨wy.heap.size,0,none⟩ 2 2 [.int .i64 x,.int .i64 y] (by simp [Act.eval]) rfl (fun j u hj=>by match j,hj with | 0,hj=>simp at hj; subst hj; simp [Addr.add] | 1,hj=>simp at hj; subst hj; simp [Addr.add] | j+2,hj=>simp at hj) (fun u hu=>by simp at hu; rcases hu with rfl | rfl <;> rfl) (by unfold maxLen; omega) (by omega) hbs ?_);intro vk' w6 hown6 hgrow6 _;obtain ⟨ub,ud,rfl⟩:=q1H hown6;obtain ⟨B6,R6,S6⟩:=SK.out.keys hgw hgrow6 [x,y] hown6;have HS6:=hidden S6;have c15':=B6.cell (j:=15) rfl;have fz:=B6.frozen 15;clear hown6 hgrow6 S6 R6 hbs;refine hK.out _ _ ?_ (fun hHeld=> ?_)
      ·
       (try dsimp only); (try trivial)
      clear hK K;try go_simp
      refine tk 8 ?_; go_simp;refine r1 9 (fun K hK=> ?_);go_simp;refine hK.out _ _ ?_ (fun hHeld=> ?_)
      ·
       (try dsimp only); (try trivial)
      clear hK K;try simp only [Act.put]
      refine dn ?_;clear hHeld B6 c15' fz;go_wp2_with fail;go_meet
      case rel=>exact ⟨rfl,3,_,_,_,_,_,by omega,by have h:=hzs; simp only [Pl.sz_succ,Pl.nd_mk,Pl.kids_mk,List.length_append,List.length_cons,List.length_nil] at h ⊢; omega,⟨HS6.out.1.le (by omega),HS6.out.2⟩⟩
  have h3f:(q==3)=false:=by simp [h3]
  by_cases h4:q=4
  ·
   subst h4;have hlit:=v1K w4 [-1,4,1] (by simp);have T4:=hidden (S4.out.below hgw (z1B (.cells #[.int .i64 (-1),.int .i64 4,.int .i64 1] 3)));go_wp2_with fail;refine (k1G g _ _ _ _ _ _ (by omega) T4.out.1.1 hlit (by omega) (by simp) (by simp)).mono ?_;rintro e w5 ⟨z,hz,rfl,hr9,hg9⟩;have S5:=hidden (T4.out.call hgw hg9 hr9);have cF:=S5.out.2.2.1.cell (j:=16) rfl;have fF:=S5.out.2.2.1.frozen 16;have S6:=hidden (S5.out.setF hgw 16 (.int .i64 z) ({ p.nd with g:=z }:Nd) rfl rfl rfl);clear hr9 hg9 T4 S5 hlit hz;go_wp2_with fail;go_meet
   case rel=>exact ⟨rfl,3,_,_,_,_,_,by omega,by rw [sz_nd p ({ p.nd with g:=z }:Nd) rfl rfl]; omega,⟨S6.out.1.le (by omega),S6.out.2⟩⟩
  have h4f:(q==4)=false:=by simp [h4]
  by_cases h5:q=5
  ·
   subst h5;go_wp2_with fail;go_loopw [4] (fun i wr=> ∃ (k n:Nat) (p:Pl (n+1)) (vc vk vd:Value) (hi:Nat),k<=6/\i = .int .i64 k/\n<=3+k/\Pl.sz (n+1) p<=270+k/\Hid (StP w wr g (P+60001) hi A n p vc vk vd)) (fun i _=>6 - (intOf i).toNat)
   case atStart=>exact ⟨0,3,p,_,_,_,hi,by omega,rfl,by omega,hzs,S4.out⟩
   case round=>
    obtain ⟨k,n2,p2,vc,vk,vd,hi2,hk6,rfl,hn2,hz2,SR⟩:=hrel;clear S4;by_cases hlt:k<6
    ·
     have hltI:(k:Int)<6:=by omega
     obtain ⟨⟨_,ea,ec,rfl,_⟩,⟨_,fa,fc,rfl,_⟩,⟨_,ga,gc,rfl,_⟩⟩:=id SR.out.done.held.now;have HR:Hid (wr.rangeAt A 0 (p19 p2 ea ec fa fc ga gc)):=SR.out.2.2.1.range;have hl2:(Tryz.prog.info? 31).map (·.size)=some (p19 p2 ea ec fa fc ga gc).length:=by kernel_rfl
     have HTH:Hid ((wr.alloc (.cells (p19 p2 ea ec fa fc ga gc).toArray 31)).there A 0 (h19 6 0 (.slice none 0 0) 0 0 (.slice none 0 0) 0 0 (.slice (some ⟨wr.heap.size,0,none⟩) 1 1)).toArray.size):=(SR.out.2.2.1.allocG _).there;have hii:(Tryz.prog.info? 31).map (·.size)=some (h19 6 0 (.slice none 0 0) 0 0 (.slice none 0 0) 0 0 (.slice (some ⟨wr.heap.size,0,none⟩) 1 1)).toArray.size:=by kernel_rfl
     have H1:Hid ((h19 6 0 (.slice none 0 0) 0 0 (.slice none 0 0) 0 0 (.slice (some ⟨wr.heap.size,0,none⟩) 1 1)).toArray.all (·.oneCell')=true):=j1W (⟨6,0,⟨0,false,⟨0,0,0,0⟩,⟨0,0,0,0⟩⟩,[],0,0,[],0,0⟩:Nd) _ _ _ rfl rfl rfl;go_wp2_with (first | ((with_reducible refine wpList_store_mid rfl 31 (.tmp 3) (.tmp 52) rfl A 0 (h19 6 0 (.slice none 0 0) 0 0 (.slice none 0 0) 0 0 (.slice (some ⟨wr.heap.size,0,none⟩) 1 1)).toArray ?_ ?_ HTH.out hii H1.out ?_); rfl; rfl; generalize hW6:World.setCells _ _ _ _=W6) | ((with_reducible refine wpList_load_mid rfl 31 (.tmp 3) rfl A 0 ?_ (p19 p2 ea ec fa fc ga gc) _ HR.out Tryz.underlying31 ?_ hl2 ?_); rfl; rfl));have S6:=hidden (SR.out.wrap hgw (⟨6,0,⟨0,false,⟨0,0,0,0⟩,⟨0,0,0,0⟩⟩,[],0,0,[],0,0⟩:Nd) rfl rfl hW6);clear hW6 HTH hii H1 HR;refine ⟨⟨k+1,n2+1,_,_,_,_,_,by omega,by go_num,by omega,?_,S6.out⟩,by simp [intOf]; omega⟩;rw [Pl.sz_succ,Pl.nd_mk,Pl.kids_mk];simp only [List.length_cons,List.length_nil,List.map_cons,List.map_nil,List.sum_cons,List.sum_nil];omega
    ·
     have hltI:(6:Int)<=(k:Int):=by omega
     go_wp2_with fail;go_meet
     case rel=>exact ⟨rfl,n2,_,_,_,_,_,by omega,by omega,⟨SR.out.1.le (by omega),SR.out.2⟩⟩
  have h5f:(q==5)=false:=by simp [h5]
  by_cases h6:q=6
  ·
   subst h6;obtain ⟨i0,hi0,hz0,hz1,hz2⟩:=info_parts infoC4;have SD:=hidden (S4.out.below hgw (below_drewN (Below.refl _ _) 1));have hlk:p.nd.ks.length<=270/\p.nd.cs.length<=270:=by have h:=hzs; rw [Pl.sz_succ] at h; omega
   go_wp2_with fail;refine wp_region_held_drew (S:=(fun _:World=>True)) (by kernel_rfl) ?_ (fun hHeld=> ?_)
   ·
    (try dsimp only); (try trivial)
   refine tk 0 ?_; go_simp;refine tk 2 ?_; go_simp;refine wpAnyH_ready (rs:=[1,3]) (by kernel_rfl) (by simp) ?_;refine AllReadyH.cons rfl (fun K hK=> ?_) (AllReadyH.cons rfl (fun K hK=> ?_) AllReadyH.nil)
   ·
    have c0:=S4.out.2.2.1.cell (j:=12) rfl;go_simp;refine hK.out _ _ ?_ (fun hHeld=> ?_)
    ·
     (try dsimp only); (try trivial)
    clear hK K;try go_simp
    refine r1 3 (fun K hK=> ?_);go_simp;(go_at_call 53; refine (v2J g _ 2 _ (by omega) (by omega) (by omega) SD.out.1.1).mono ?_; rintro e wc ⟨c,rfl,-,hr9,hg9⟩);have S7:=hidden (SD.out.call hgw hg9 hr9);clear hr9 hg9;refine hK.out _ _ ?_ (fun hHeld=> ?_)
    ·
     (try dsimp only); (try trivial)
    clear hK K;try go_simp
    refine r1 4 (fun K hK=> ?_);go_simp;have SK:=hidden (S7.out.below hgw (z1B (.cells #[.int .i64 c.k,.int .i64 c.a,.int .i64 c.b,.int .i64 c.n] 24)));refine hK.out _ _ ?_ (fun hHeld=> ?_)
    ·
     (try dsimp only); (try trivial)
    clear hK K;try go_simp
    refine r1 5 (fun K hK=> ?_);have hbs:=SK.out.2.1.2.1;refine q1I rfl (wp_append_own _ (.tmp 56) (.tmp 59) 27 rfl hi 24 i0 (.agg #[.int .i64 0,.int .i64 0,.int .i64 0,.int .i64 0]) 4 32 Tryz.underlying27 hi0 hz0 hz1 hz2 rfl (by decide) (.slice ca p.nd.cs.length cc) p.nd.cs.length (j2V p.nd.cs) (by simp [Act.eval]) SK.out.2.1.2.2.2.1 ⟨wc.heap.size,0,none⟩ 1 1 [.int .i64 c.k,.int .i64 c.a,.int .i64 c.b,.int .i64 c.n] (by simp [Act.eval]) rfl (x5P wc _ _ _ _) (one4 _ _ _ _) (by unfold maxLen; omega) (by omega) hbs ?_);intro vc' w6 hown6 hgrow6 _;obtain ⟨ub,ud,rfl⟩:=q1H hown6;obtain ⟨B6,R6,S6⟩:=SK.out.cell hgw hgrow6 c hown6;have HS6:=hidden S6;have c12':=B6.cell (j:=12) rfl;have fz:=B6.frozen 12;clear hown6 hgrow6 S6 R6 hbs;refine hK.out _ _ ?_ (fun hHeld=> ?_)
    ·
     (try dsimp only); (try trivial)
    clear hK K;try go_simp
    refine tk 6 ?_; go_simp;refine r1 7 (fun K hK=> ?_);go_simp;refine hK.out _ _ ?_ (fun hHeld=> ?_)
    ·
     (try dsimp only); (try trivial)
    clear hK K;try simp only [Act.put]
    refine dn ?_;clear hHeld B6 c12' fz;go_wp2_with fail;go_meet
    case rel=>exact ⟨rfl,3,_,_,_,_,_,by omega,by have h:=hzs; simp only [Pl.sz_succ,Pl.nd_mk,Pl.kids_mk,List.length_append,List.length_cons,List.length_nil] at h ⊢; omega,⟨HS6.out.1.le (by omega),HS6.out.2⟩⟩
   ·
    go_simp;(go_at_call 53; refine (v2J g _ 2 _ (by omega) (by omega) (by omega) SD.out.1.1).mono ?_; rintro e wc ⟨c,rfl,-,hr9,hg9⟩);have S7:=hidden (SD.out.call hgw hg9 hr9);clear hr9 hg9;refine hK.out _ _ ?_ (fun hHeld=> ?_)
    ·
     (try dsimp only); (try trivial)
    clear hK K;try go_simp
    refine wpAnyH_ready (rs:=[1,4]) (by kernel_rfl) (by simp) ?_;refine AllReadyH.cons rfl (fun K hK=> ?_) (AllReadyH.cons rfl (fun K hK=> ?_) AllReadyH.nil)
    ·
     have c3:=S7.out.2.2.1.cell (j:=12) rfl;go_simp;refine hK.out _ _ ?_ (fun hHeld=> ?_)
     ·
      (try dsimp only); (try trivial)
     clear hK K;try go_simp
     refine r1 4 (fun K hK=> ?_);go_simp;have SK:=hidden (S7.out.below hgw (z1B (.cells #[.int .i64 c.k,.int .i64 c.a,.int .i64 c.b,.int .i64 c.n] 24)));refine hK.out _ _ ?_ (fun hHeld=> ?_)
     ·
      (try dsimp only); (try trivial)
     clear hK K;try go_simp
     refine r1 5 (fun K hK=> ?_);have hbs:=SK.out.2.1.2.1;refine q1I rfl (wp_append_own _ (.tmp 56) (.tmp 59) 27 rfl hi 24 i0 (.agg #[.int .i64 0,.int .i64 0,.int .i64 0,.int .i64 0]) 4 32 Tryz.underlying27 hi0 hz0 hz1 hz2 rfl (by decide) (.slice ca p.nd.cs.length cc) p.nd.cs.length (j2V p.nd.cs) (by simp [Act.eval]) SK.out.2.1.2.2.2.1 ⟨wc.heap.size,0,none⟩ 1 1 [.int .i64 c.k,.int .i64 c.a,.int .i64 c.b,.int .i64 c.n] (by simp [Act.eval]) rfl (x5P wc _ _ _ _) (one4 _ _ _ _) (by unfold maxLen; omega) (by omega) hbs ?_);intro vc' w6 hown6 hgrow6 _;obtain ⟨ub,ud,rfl⟩:=q1H hown6;obtain ⟨B6,R6,S6⟩:=SK.out.cell hgw hgrow6 c hown6;have HS6:=hidden S6;have c12':=B6.cell (j:=12) rfl;have fz:=B6.frozen 12;clear hown6 hgrow6 S6 R6 hbs;refine hK.out _ _ ?_ (fun hHeld=> ?_)
     ·
      (try dsimp only); (try trivial)
     clear hK K;try go_simp
     refine tk 6 ?_; go_simp;refine r1 7 (fun K hK=> ?_);go_simp;refine hK.out _ _ ?_ (fun hHeld=> ?_)
     ·
      (try dsimp only); (try trivial)
     clear hK K;try simp only [Act.put]
     refine dn ?_;clear hHeld B6 c12' fz;go_wp2_with fail;go_meet
     case rel=>exact ⟨rfl,3,_,_,_,_,_,by omega,by have h:=hzs; simp only [Pl.sz_succ,Pl.nd_mk,Pl.kids_mk,List.length_append,List.length_cons,List.length_nil] at h ⊢; omega,⟨HS6.out.1.le (by omega),HS6.out.2⟩⟩
    ·
     go_simp;have SK:=hidden (S7.out.below hgw (z1B (.cells #[.int .i64 c.k,.int .i64 c.a,.int .i64 c.b,.int .i64 c.n] 24)));refine hK.out _ _ ?_ (fun hHeld=> ?_)
     ·
      (try dsimp only); (try trivial)
     clear hK K;try go_simp
     refine r1 1 (fun K hK=> ?_);have c3:=S7.out.2.2.1.cell (j:=12) rfl;have c4:=SK.out.2.2.1.cell (j:=12) rfl;go_simp;refine hK.out _ _ ?_ (fun hHeld=> ?_)
     ·
      (try dsimp only); (try trivial)
     clear hK K;try go_simp
     refine r1 5 (fun K hK=> ?_);have hbs:=SK.out.2.1.2.1;refine q1I rfl (wp_append_own _ (.tmp 56) (.tmp 59) 27 rfl hi 24 i0 (.agg #[.int .i64 0,.int .i64 0,.int .i64 0,.int .i64 0]) 4 32 Tryz.underlying27 hi0 hz0 hz1 hz2 rfl (by decide) (.slice ca p.nd.cs.length cc) p.nd.cs.length (j2V p.nd.cs) (by simp [Act.eval]) SK.out.2.1.2.2.2.1 ⟨wc.heap.size,0,none⟩ 1 1 [.int .i64 c.k,.int .i64 c.a,.int .i64 c.b,.int .i64 c.n] (by simp [Act.eval]) rfl (x5P wc _ _ _ _) (one4 _ _ _ _) (by unfold maxLen; omega) (by omega) hbs ?_);intro vc' w6 hown6 hgrow6 _;obtain ⟨ub,ud,rfl⟩:=q1H hown6;obtain ⟨B6,R6,S6⟩:=SK.out.cell hgw hgrow6 c hown6;have HS6:=hidden S6;have c12':=B6.cell (j:=12) rfl;have fz:=B6.frozen 12;clear hown6 hgrow6 S6 R6 hbs;refine hK.out _ _ ?_ (fun hHeld=> ?_)
     ·
      (try dsimp only); (try trivial)
     clear hK K;try go_simp
     refine tk 6 ?_; go_simp;refine r1 7 (fun K hK=> ?_);go_simp;refine hK.out _ _ ?_ (fun hHeld=> ?_)
     ·
      (try dsimp only); (try trivial)
     clear hK K;try simp only [Act.put]
     refine dn ?_;clear hHeld B6 c12' fz;go_wp2_with fail;go_meet
     case rel=>exact ⟨rfl,3,_,_,_,_,_,by omega,by have h:=hzs; simp only [Pl.sz_succ,Pl.nd_mk,Pl.kids_mk,List.length_append,List.length_cons,List.length_nil] at h ⊢; omega,⟨HS6.out.1.le (by omega),HS6.out.2⟩⟩
  have h6f:(q==6)=false:=by simp [h6]
  go_wp2_with fail;go_meet
  case rel=>exact ⟨rfl,3,_,_,_,_,_,by omega,by omega,⟨S4.out.1.le (by omega),S4.out.2⟩⟩
 case rest=>
  obtain ⟨rfl,n,p,vc,vk,vd,hi,hn,hz,SR⟩:=hcut;clear S4;obtain ⟨⟨_,ca,cc,rfl,_⟩,⟨_,ka,kc,rfl,_⟩,⟨_,da,dc,rfl,_⟩⟩:=id SR.out.done.held.now;have HR:Hid (wc.rangeAt A 0 (p19 p ca cc ka kc da dc)):=SR.out.2.2.1.range;have hl2:(Tryz.prog.info? 31).map (·.size)=some (p19 p ca cc ka kc da dc).length:=by kernel_rfl
  have HTH:Hid (wc.there w.heap.size 0 (p19 p ca cc ka kc da dc).toArray.size):=SR.out.1.2.2.there;have hii:(Tryz.prog.info? 31).map (·.size)=some (p19 p ca cc ka kc da dc).toArray.size:=by kernel_rfl
  have H1:Hid ((p19 p ca cc ka kc da dc).toArray.all (·.oneCell')=true):=j1W p.nd _ _ _ rfl rfl rfl;go_wp2_with (first | ((with_reducible refine wpList_store_mid rfl 31 (.tmp 2) (.tmp 62) rfl w.heap.size 0 (p19 p ca cc ka kc da dc).toArray ?_ ?_ HTH.out hii H1.out ?_); rfl; rfl; generalize hW8:World.setCells _ _ _ _=W8) | ((with_reducible refine wpList_load_mid rfl 31 (.tmp 3) rfl A 0 ?_ (p19 p ca cc ka kc da dc) _ HR.out Tryz.underlying31 ?_ hl2 ?_); rfl; rfl));have HF:=hidden (StR.told (P':=P+70000) SR.out.1 hgw SR.out.done (by omega) hW8);refine bodyPost_ret (v:=.agg (p19 p ca cc ka kc da dc).toArray) (v1R (a:=2) (t:=31) (ad:=⟨w.heap.size,0,none⟩) Tryz.results19 (by simp [Act.put]) (j1K HF.out.1)) (by simp [Act.put]) ?_;exact ⟨n,p,_,_,_,rfl,hn,hz,HF.out.2.2.2,HF.out.2.1,HF.out.2.2.1⟩
def StM (w1 X:World) (g P R A n:Nat) (p:Pl (n+1)) (vc vk vd:Value):Prop:=Rd X g P/\w1.grownBy X (some g)/\PlT n X (w1.heap.size+1) p vc vk vd/\x1P X A (z1J p.nd vc vk vd)/\x1P X R z19
theorem StM.call {w1 X Y:World} {g P P' R A n:Nat} {p:Pl (n+1)} {vc vk vd:Value} (h:StM w1 X g P R A n p vc vk vd) (hg:X.grownBy Y (some g)) (hr:Rd Y g P') (hR:R<g) (hw:g<w1.heap.size) (hA:w1.heap.size<=A):StM w1 Y g P' R A n p vc vk vd:=
 ⟨hr,z1G h.2.1 hg,h.2.2.1.step hg (fun k e=>by simp only [Option.some.injEq] at e; omega),h.2.2.2.1.grown hg (fun e=>by simp only [Option.some.injEq] at e; omega),h.2.2.2.2.grown hg (fun e=>by simp only [Option.some.injEq] at e; omega)⟩
theorem StM.below {w1 X Y:World} {g P R A n:Nat} {p:Pl (n+1)} {vc vk vd:Value} (h:StM w1 X g P R A n p vc vk vd) (hb:Below X.heap.size X Y):StM w1 Y g P R A n p vc vk vd:=
 have hg:=q1F hb none
 ⟨h.1.below hb,v2U h.2.1 hb,h.2.2.1.step hg (fun k e=>by cases e),h.2.2.2.1.grown hg (fun e=>by cases e),h.2.2.2.2.grown hg (fun e=>by cases e)⟩
theorem StM.new {w1 X V:World} {g P R n:Nat} {p:Pl (n+1)} {vc vk vd:Value} (hr:Rd X g P) (hg:w1.grownBy X (some g)) (hp:PlT n X (w1.heap.size+1) p vc vk vd) (hR:x1P X R z19) (hw:g<w1.heap.size) (hV:(X.alloc (.cells z19.toArray 31)).setCells X.heap.size 0 (z1J p.nd vc vk vd)=V):StM w1 V g P R X.heap.size n p vc vk vd:=by
 have hs:=hg.size;have g2:=q1M X.heap.size (z1J p.nd vc vk vd) 0 (X.alloc (.cells z19.toArray 31));subst hV;exact ⟨(hr.below (z1B _)).grown g2 (fun k e=>by simp only [Option.some.injEq] at e; omega),x1T (x1F hg _) g2 (fun k e=>by simp only [Option.some.injEq] at e; omega),hp.fresh _,(z1X X z19 rfl).put _ rfl,hR.fresh _⟩
theorem StM.over {w1 W X V:World} {g P R A n m:Nat} {p:Pl (n+1)} {b:Pl (m+1)} {vc vk vd vb kb db:Value} (h:StM w1 X g P R A n p vc vk vd) (hp:PlT m X (W.heap.size+1) b vb kb db) (hA:A<W.heap.size) (hW:w1.heap.size<=W.heap.size) (hR:R<g) (hw:g<w1.heap.size) (hA1:w1.heap.size<=A) (hV:X.setCells A 0 (z1J b.nd vb kb db)=V):StM w1 V g P R A m b vb kb db:=by
 have g2:=q1M A (z1J b.nd vb kb db) 0 X;subst hV;exact ⟨h.1.grown g2 (fun k e=>by simp only [Option.some.injEq] at e; omega),x1T h.2.1 g2 (fun k e=>by simp only [Option.some.injEq] at e; omega),(hp.step g2 (fun k e=>by simp only [Option.some.injEq] at e; omega)).lower (by omega),h.2.2.2.1.put _ rfl,h.2.2.2.2.grown g2 (fun e=>by simp only [Option.some.injEq] at e; omega)⟩
theorem v3P (a:Option Addr) (len cap:Nat) (bs:List Int) (w:World) (h:z5P .u8 w a len cap bs) :
  Calls Tryz.prog 4 #[.slice a len cap] w fun e w'=> ∃ (n:Nat) (p:Pl (n+1)) (vc vk vd:Value) (tb:Nat),e = .returned (.tuple #[.agg (z1J p.nd vc vk vd).toArray,.slice (some ⟨tb,0,none⟩) 2 2])/\n<=9/\Pl.sz (n+1) p<=300/\q1X (NodeAt n) w' p.nd p.kids vc vk vd/\Below w.heap.size w w'/\∃ t0 t1:List It,ZssAt w' (.slice (some ⟨tb,0,none⟩) 2 2) [t0,t1]/\x2N t0/\x2N t1/\(q1G t0=true->q2J t0)/\(∀ x∈t1,x.1.length=2):=by
 have HB0:Hid (Below w.heap.size w (w.alloc (.cells o19.toArray 31))):=z1B _;have HI:=hidden (h.below HB0.out);have HX0:=hidden (z1X w z19 rfl);clear h;go_enter Tryz.func4,Tryz.ntmps4;go_wp2_with fail;refine (k4G a len cap bs _ HI.out).mono ?_;rintro e w1 ⟨rfl,hrd1,hb1⟩;have HB1:=hidden (z1A HB0.out hb1);have HX1:=hidden (HX0.out.grown (q1F hb1 none) (fun e=>by cases e));have hg1:=hrd1.lt;obtain ⟨g,hg⟩:∃ g,g=((w.alloc (.cells o19.toArray 31))).heap.size:=⟨_,rfl⟩;have hgw:g=w.heap.size+1:=by rw [hg]; exact q1C _ _
 rw [<-hg] at hrd1 hg1 ⊢;have HR1:=hidden hrd1;have hRg:w.heap.size<g:=by omega
 clear hg hrd1 hb1 HI HB0 HX0 hgw;go_wp2_with fail;refine (k3B g 0 _ (by omega) HR1.out).mono ?_;rintro e w2 ⟨p,vc,vk,vd,rfl,hzp,hpp,hr9,hg9⟩;obtain ⟨⟨_,ca,cc,rfl,_⟩,⟨_,ka,kc,rfl,_⟩,⟨_,da,dc,rfl,_⟩⟩:=id hpp.held.now;have HPP:=hidden hpp;have HR2:=hidden hr9;have HG2:=hidden hg9;have HX2:=hidden (HX1.out.grown hg9 (fun e=>by simp only [Option.some.injEq] at e; omega));have hs2:w1.heap.size<=w2.heap.size:=hg9.size;clear hpp hr9 hg9 HX1 HR1;have HTH:Hid ((w2.alloc (.cells o19.toArray 31)).there w2.heap.size 0 (p19 p ca cc ka kc da dc).toArray.size):=(z1X w2 z19 rfl).there;have hii:(Tryz.prog.info? 31).map (·.size)=some (p19 p ca cc ka kc da dc).toArray.size:=by kernel_rfl
 have H1:Hid ((p19 p ca cc ka kc da dc).toArray.all (·.oneCell')=true):=j1W p.nd _ _ _ rfl rfl rfl;go_wp2_with ((with_reducible refine wpList_store_mid rfl 31 (.tmp 5) (.tmp 9) rfl w2.heap.size 0 (p19 p ca cc ka kc da dc).toArray ?_ ?_ HTH.out hii H1.out ?_); rfl; rfl; generalize hW9:World.setCells _ _ _ _=W9);have S3:=hidden (StM.new HR2.out HG2.out HPP.out HX2.out hg1 hW9);clear HTH hii H1 hW9 HPP HR2 HG2 HX2;refine (z1L g _ 20 _ (by omega) (by omega) (by omega) S3.out.1).mono ?_;rintro e w4 ⟨q,q0,q20,rfl,hr9,hg9⟩;have S4:=hidden (S3.out.call hg9 hr9 hRg hg1 hs2);generalize w2.heap.size=A at S4 hs2 ⊢;clear S3 hr9 hg9;by_cases hq:q=0
 ·
  subst hq;go_wp2_with fail;refine (x5X g _ _ (by omega) S4.out.1).mono ?_;rintro e w5 ⟨n,q,vc,vk,vd,rfl,hn,hzq,hpq,hr9,hg9⟩;obtain ⟨⟨_,ea,ec,rfl,_⟩,⟨_,fa,fc,rfl,_⟩,⟨_,ga,gc,rfl,_⟩⟩:=id hpq.held.now;have S5:=hidden (S4.out.call hg9 hr9 hRg hg1 hs2);have HPQ:=hidden hpq;have hA4:A<w4.heap.size:=S4.out.2.2.2.1.lt;have hw4:w1.heap.size<=w4.heap.size:=S4.out.2.1.size;clear hpq hr9 hg9 S4;have HTH:Hid (w5.there A 0 (p19 q ea ec fa fc ga gc).toArray.size):=S5.out.2.2.2.1.there;have hii:(Tryz.prog.info? 31).map (·.size)=some (p19 q ea ec fa fc ga gc).toArray.size:=by kernel_rfl
  have H1:Hid ((p19 q ea ec fa fc ga gc).toArray.all (·.oneCell')=true):=j1W q.nd _ _ _ rfl rfl rfl;go_wp2_with ((with_reducible refine wpList_store_mid rfl 31 (.tmp 5) (.tmp 14) rfl A 0 (p19 q ea ec fa fc ga gc).toArray ?_ ?_ HTH.out hii H1.out ?_); rfl; rfl; generalize hW6:World.setCells _ _ _ _=W6);have S6:=hidden (StM.over S5.out HPQ.out hA4 hw4 hRg hg1 hs2 hW6);clear HTH hii H1 hW6 S5 HPQ;have SD:=hidden (S6.out.below (below_drewN (Below.refl _ _) 1));have hlx:(Tryz.prog.info? 31).map (·.size)=some (p19 q ea ec fa fc ga gc).length:=by kernel_rfl
  refine wp_region_held_drew (S:=(fun X:World=>X.rangeAt A 0 (p19 q ea ec fa fc ga gc))) (by kernel_rfl) ?_ (fun hHeld=> ?_)
  ·
   (try dsimp only); exact SD.out.2.2.2.1.range
  refine tl 0 (v:=.agg (p19 q ea ec fa fc ga gc).toArray) rfl (yieldsIf_load_mid (by rfl) 31 _ rfl A 0 rfl (p19 q ea ec fa fc ga gc) _ (fun x h=>h) Tryz.underlying31 rfl hlx) ?_;go_simp;refine tk 1 ?_; go_simp;refine r1 2 (fun K hK=> ?_);go_simp;(go_at_call 20; refine (j2P g _ _ (by omega) SD.out.1).mono ?_; rintro e wt ⟨tb,t0,t1,rfl,hT,hg0,ht1,ho,hw2,hr9,hg9⟩);have ST:=hidden (SD.out.call hg9 hr9 hRg hg1 hs2);have HT:=hidden hT;have HD:=hidden (And.intro hg0 (And.intro ht1 (And.intro ho hw2)));have hsd:w.heap.size<(W6.drewN 1).heap.size:=SD.out.2.2.2.2.lt;clear hT hg0 ht1 ho hw2 hr9 hg9;have HTH:Hid (wt.there w.heap.size 0 (p19 q ea ec fa fc ga gc).toArray.size):=ST.out.2.2.2.2.there;have hii:(Tryz.prog.info? 31).map (·.size)=some (p19 q ea ec fa fc ga gc).toArray.size:=by kernel_rfl
  have H1:Hid ((p19 q ea ec fa fc ga gc).toArray.all (·.oneCell')=true):=j1W q.nd _ _ _ rfl rfl rfl;refine hK.out _ _ ?_ (fun hHeld=> ?_)
  ·
   (try dsimp only); exact ST.out.2.2.2.1.range
  clear hK K;try go_simp
  refine r1 3 (fun K hK=> ?_);refine q1I rfl (wp_store_mid 31 (.tmp 2) (.tmp 15) rfl w.heap.size 0 (p19 q ea ec fa fc ga gc).toArray (by simp [Act.eval]) (by simp [Act.eval]) HTH.out hii H1.out ?_);generalize hW8:World.setCells _ _ _ _=W8;refine hK.out _ _ ?_ (fun hHeld=> ?_)
  ·
   (try dsimp only); exact (ST.out.2.2.2.1.past (by omega) hW8).range
  clear hK K;try simp only [Act.put]
  refine tk 4 ?_; go_simp;refine dn ?_;have HF:Hid (x1P W8 w.heap.size (p19 q ea ec fa fc ga gc)/\q1X (NodeAt n) W8 q.nd q.kids (.slice ea q.nd.cs.length ec) (.slice fa q.nd.ks.length fc) (.slice ga q.kids.length gc)/\ZssAt W8 (.slice (some ⟨tb,0,none⟩) 2 2) [t0,t1]/\Below w.heap.size w W8):=by
   subst hW8;have g2:=q1M w.heap.size (p19 q ea ec fa fc ga gc) 0 wt;exact ⟨ST.out.2.2.2.2.put _ rfl,(ST.out.2.2.1.held.step g2 (fun k e=>by simp only [Option.some.injEq] at e; omega)).now,HT.out _ (z4L g2 (fun k e=>by simp only [Option.some.injEq] at e; omega)),(HB1.out.grown ST.out.2.1 HB1.out.size (fun k e=>by simp only [Option.some.injEq] at e; omega)).grown g2 (Nat.le_trans HB1.out.size ST.out.2.1.size) (fun k e=>by simp only [Option.some.injEq] at e; omega)⟩
  clear hHeld;go_wp2_with fail;refine bodyPost_ret (v:=.tuple #[.agg (p19 q ea ec fa fc ga gc).toArray,.slice (some ⟨tb,0,none⟩) 2 2]) (q1P (a:=2) (b:=3) (t:=31) (ad:=⟨w.heap.size,0,none⟩) Tryz.results4 (by simp [Act.put]) (by simp [Act.put]) (j1K HF.out.1)) (by simp [Act.put]) ?_;exact ⟨n,q,_,_,_,tb,rfl,hn,by omega,HF.out.2.1,HF.out.2.2.2,t0,t1,HF.out.2.2.1,HD.out.1,HD.out.2.1,HD.out.2.2.1,fun x y hx=>HD.out.2.2.2 (x,y) hx⟩
 ·
  have hqf:(q==0)=false:=by simp [hq]
  have hn:3<=9:=by omega
  go_wp2_with fail;have SD:=hidden (S4.out.below (below_drewN (Below.refl _ _) 1));have hlx:(Tryz.prog.info? 31).map (·.size)=some (p19 p ca cc ka kc da dc).length:=by kernel_rfl
  refine wp_region_held_drew (S:=(fun X:World=>X.rangeAt A 0 (p19 p ca cc ka kc da dc))) (by kernel_rfl) ?_ (fun hHeld=> ?_)
  ·
   (try dsimp only); exact SD.out.2.2.2.1.range
  refine tl 0 (v:=.agg (p19 p ca cc ka kc da dc).toArray) rfl (yieldsIf_load_mid (by rfl) 31 _ rfl A 0 rfl (p19 p ca cc ka kc da dc) _ (fun x h=>h) Tryz.underlying31 rfl hlx) ?_;go_simp;refine tk 1 ?_; go_simp;refine r1 2 (fun K hK=> ?_);go_simp;(go_at_call 20; refine (j2P g _ _ (by omega) SD.out.1).mono ?_; rintro e wt ⟨tb,t0,t1,rfl,hT,hg0,ht1,ho,hw2,hr9,hg9⟩);have ST:=hidden (SD.out.call hg9 hr9 hRg hg1 hs2);have HT:=hidden hT;have HD:=hidden (And.intro hg0 (And.intro ht1 (And.intro ho hw2)));have hsd:w.heap.size<(w4.drewN 1).heap.size:=SD.out.2.2.2.2.lt;clear hT hg0 ht1 ho hw2 hr9 hg9;have HTH:Hid (wt.there w.heap.size 0 (p19 p ca cc ka kc da dc).toArray.size):=ST.out.2.2.2.2.there;have hii:(Tryz.prog.info? 31).map (·.size)=some (p19 p ca cc ka kc da dc).toArray.size:=by kernel_rfl
  have H1:Hid ((p19 p ca cc ka kc da dc).toArray.all (·.oneCell')=true):=j1W p.nd _ _ _ rfl rfl rfl;refine hK.out _ _ ?_ (fun hHeld=> ?_)
  ·
   (try dsimp only); exact ST.out.2.2.2.1.range
  clear hK K;try go_simp
  refine r1 3 (fun K hK=> ?_);refine q1I rfl (wp_store_mid 31 (.tmp 2) (.tmp 15) rfl w.heap.size 0 (p19 p ca cc ka kc da dc).toArray (by simp [Act.eval]) (by simp [Act.eval]) HTH.out hii H1.out ?_);generalize hW8:World.setCells _ _ _ _=W8;refine hK.out _ _ ?_ (fun hHeld=> ?_)
  ·
   (try dsimp only); exact (ST.out.2.2.2.1.past (by omega) hW8).range
  clear hK K;try simp only [Act.put]
  refine tk 4 ?_; go_simp;refine dn ?_;have HF:Hid (x1P W8 w.heap.size (p19 p ca cc ka kc da dc)/\q1X (NodeAt 3) W8 p.nd p.kids (.slice ca p.nd.cs.length cc) (.slice ka p.nd.ks.length kc) (.slice da p.kids.length dc)/\ZssAt W8 (.slice (some ⟨tb,0,none⟩) 2 2) [t0,t1]/\Below w.heap.size w W8):=by
   subst hW8;have g2:=q1M w.heap.size (p19 p ca cc ka kc da dc) 0 wt;exact ⟨ST.out.2.2.2.2.put _ rfl,(ST.out.2.2.1.held.step g2 (fun k e=>by simp only [Option.some.injEq] at e; omega)).now,HT.out _ (z4L g2 (fun k e=>by simp only [Option.some.injEq] at e; omega)),(HB1.out.grown ST.out.2.1 HB1.out.size (fun k e=>by simp only [Option.some.injEq] at e; omega)).grown g2 (Nat.le_trans HB1.out.size ST.out.2.1.size) (fun k e=>by simp only [Option.some.injEq] at e; omega)⟩
  clear hHeld;go_wp2_with fail;refine bodyPost_ret (v:=.tuple #[.agg (p19 p ca cc ka kc da dc).toArray,.slice (some ⟨tb,0,none⟩) 2 2]) (q1P (a:=2) (b:=3) (t:=31) (ad:=⟨w.heap.size,0,none⟩) Tryz.results4 (by simp [Act.put]) (by simp [Act.put]) (j1K HF.out.1)) (by simp [Act.put]) ?_;exact ⟨3,p,_,_,_,tb,rfl,hn,by omega,HF.out.2.1,HF.out.2.2.2,t0,t1,HF.out.2.2.1,HD.out.1,HD.out.2.1,HD.out.2.2.1,fun x y hx=>HD.out.2.2.2 (x,y) hx⟩
end Go.Proofs.YtmjaepdplbgohaaGreatDoor.Kd
