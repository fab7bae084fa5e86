/- Part of the proof of laws.FnMean: DrawPlan. -/
import Derived.Test.YtmjaepdplbgohaaGreatDoorPkA
import Derived.Test.YtmjaepdplbgohaaGreatDoorPkQ
import Derived.Test.YtmjaepdplbgohaaGreatDoorPkH
import Derived.Deep.RegionHeld3
import Derived.Deep.RegionHeld
import Derived.OrdersHeld
import Derived.Deep.DeepCutAuto
import Derived.Deep.CutBlock
set_option maxRecDepth 100000
set_option maxHeartbeats 16000000
set_option linter.unusedVariables false
set_option linter.unusedSimpArgs false
namespace Go.Proofs.YtmjaepdplbgohaaGreatDoor.Kd
open Go.RowKit
theorem q6U (a b:Int) (w:World):Calls Tryz.prog 94 #[.int .i64 a,.int .i64 b] w fun e w'=>e = .returned (.int .i64 (if a<b then a else b))/\w'=w:=by
 by_cases h:a<b
 ·
  rw [if_pos h];go_enter Tryz.func94,Tryz.ntmps94;go_wp2_with fail;go_ret;exact ⟨rfl,rfl⟩
 ·
  have h':b<=a:=by omega
  rw [if_neg h];go_enter Tryz.func94,Tryz.ntmps94;go_wp2_with fail;go_ret;exact ⟨rfl,rfl⟩
theorem j3T (hCP:∀ m,v4B m) (n:Nat) (IH:∀ m,n=m+1->z5N m):z5N n:=by
 intro g P deep w hdn hd9 hd1k hTk hP hrd;obtain ⟨T,hT⟩:∃ T,T=3 ^ n:=⟨_,rfl⟩;have hT1:1<=T:=by rw [hT]; exact Nat.pow_pos (by omega)
 rw [<-hT] at hP hTk ⊢;have HT:=hidden hT;clear hT;have hgw:=hrd.lt;have HIH:=hidden IH;have HCP:=hidden hCP;have S0:=hidden (StR.start hrd);clear IH hrd hCP;by_cases hd1:deep<=1
 ·
  go_enter Tryz.func50,Tryz.ntmps50;go_wp2_with fail;refine (z1L g _ 2 _ (by omega) (by omega) (by omega) S0.out.1).mono ?_;rintro e w1 ⟨q,q0,q1,rfl,hr9,hg9⟩;have S1:=hidden (S0.out.call hgw hg9 hr9);clear hr9 hg9;have HS:=hidden S1.out;have HPT:=hidden (PlT.leaf (n:=n) (lo:=w.heap.size+1) HS.out.2.2.lt (⟨1,q,⟨0,false,⟨0,0,0,0⟩,⟨0,0,0,0⟩⟩,[],0,0,[],0,0⟩:Nd) rfl rfl);have HSZ:Hid (Pl.sz (n+1) (Pl.mk (⟨1,q,⟨0,false,⟨0,0,0,0⟩,⟨0,0,0,0⟩⟩,[],0,0,[],0,0⟩:Nd) []:Pl (n+1))<=10*T):=(by show _<=_; rw [Pl.sz_succ]; simp [Pl.nd_mk,Pl.kids_mk]);have HTH:Hid (w1.there w.heap.size 0 (h19 1 q (.slice none 0 0) 0 0 (.slice none 0 0) 0 0 (.slice none 0 0)).toArray.size):=HS.out.2.2.there;have hii:(Tryz.prog.info? 31).map (·.size)=some (h19 1 q (.slice none 0 0) 0 0 (.slice none 0 0) 0 0 (.slice none 0 0)).toArray.size:=by kernel_rfl
  have H1:Hid ((h19 1 q (.slice none 0 0) 0 0 (.slice none 0 0) 0 0 (.slice none 0 0)).toArray.all (·.oneCell')=true):=j1W (⟨1,q,⟨0,false,⟨0,0,0,0⟩,⟨0,0,0,0⟩⟩,[],0,0,[],0,0⟩:Nd) (.slice none 0 0) (.slice none 0 0) (.slice none 0 0) rfl rfl rfl;go_wp2_with ((with_reducible refine wpList_store_mid rfl 31 (.tmp 4) (.tmp 24) rfl w.heap.size 0 (h19 1 q (.slice none 0 0) 0 0 (.slice none 0 0) 0 0 (.slice none 0 0)).toArray ?_ ?_ HTH.out hii H1.out ?_); rfl; rfl; generalize hW9:World.setCells _ _ _ _=W9);have HF:=hidden (StR.told (P':=P+1000*T) HS.out hgw HPT.out (by omega) hW9);refine bodyPost_ret (v:=.tuple #[.agg (h19 1 q (.slice none 0 0) 0 0 (.slice none 0 0) 0 0 (.slice none 0 0)).toArray,.int .i64 2]) (q1P (a:=4) (b:=5) (t:=31) (ad:=⟨w.heap.size,0,none⟩) Tryz.results50 (by simp [Act.put]) (by simp [Act.put]) (j1K HF.out.1)) (by simp [Act.put]) ?_;exact ⟨(Pl.mk (⟨1,q,⟨0,false,⟨0,0,0,0⟩,⟨0,0,0,0⟩⟩,[],0,0,[],0,0⟩:Nd) []:Pl (n+1)),(.slice none 0 0),(.slice none 0 0),(.slice none 0 0),2,rfl,by omega,by omega,HSZ.out,HF.out.2.2.2,HF.out.2.1,HF.out.2.2.1⟩
 ·
  have hd1':1<deep:=by omega
  go_enter Tryz.func50,Tryz.ntmps50;go_wp2_with fail;refine (z1L g _ 5 _ (by omega) (by omega) (by omega) S0.out.1).mono ?_;rintro e w2 ⟨q5,q50,q51,rfl,hr9,hg9⟩;have S2:=hidden (S0.out.call hgw hg9 hr9);clear hr9 hg9;by_cases hq5:q5=0
  ·
   subst hq5;go_wp2_with fail;refine (z1L g _ 2 _ (by omega) (by omega) (by omega) S2.out.1).mono ?_;rintro e w1 ⟨q,q0,q1,rfl,hr9,hg9⟩;have S1:=hidden (S2.out.call hgw hg9 hr9);clear hr9 hg9;have HS:=hidden S1.out;have HPT:=hidden (PlT.leaf (n:=n) (lo:=w.heap.size+1) HS.out.2.2.lt (⟨1,q,⟨0,false,⟨0,0,0,0⟩,⟨0,0,0,0⟩⟩,[],0,0,[],0,0⟩:Nd) rfl rfl);have HSZ:Hid (Pl.sz (n+1) (Pl.mk (⟨1,q,⟨0,false,⟨0,0,0,0⟩,⟨0,0,0,0⟩⟩,[],0,0,[],0,0⟩:Nd) []:Pl (n+1))<=10*T):=(by show _<=_; rw [Pl.sz_succ]; simp [Pl.nd_mk,Pl.kids_mk]);have HTH:Hid (w1.there w.heap.size 0 (h19 1 q (.slice none 0 0) 0 0 (.slice none 0 0) 0 0 (.slice none 0 0)).toArray.size):=HS.out.2.2.there;have hii:(Tryz.prog.info? 31).map (·.size)=some (h19 1 q (.slice none 0 0) 0 0 (.slice none 0 0) 0 0 (.slice none 0 0)).toArray.size:=by kernel_rfl
   have H1:Hid ((h19 1 q (.slice none 0 0) 0 0 (.slice none 0 0) 0 0 (.slice none 0 0)).toArray.all (·.oneCell')=true):=j1W (⟨1,q,⟨0,false,⟨0,0,0,0⟩,⟨0,0,0,0⟩⟩,[],0,0,[],0,0⟩:Nd) (.slice none 0 0) (.slice none 0 0) (.slice none 0 0) rfl rfl rfl;go_wp2_with ((with_reducible refine wpList_store_mid rfl 31 (.tmp 4) (.tmp 24) rfl w.heap.size 0 (h19 1 q (.slice none 0 0) 0 0 (.slice none 0 0) 0 0 (.slice none 0 0)).toArray ?_ ?_ HTH.out hii H1.out ?_); rfl; rfl; generalize hW9:World.setCells _ _ _ _=W9);have HF:=hidden (StR.told (P':=P+1000*T) HS.out hgw HPT.out (by omega) hW9);refine bodyPost_ret (v:=.tuple #[.agg (h19 1 q (.slice none 0 0) 0 0 (.slice none 0 0) 0 0 (.slice none 0 0)).toArray,.int .i64 2]) (q1P (a:=4) (b:=5) (t:=31) (ad:=⟨w.heap.size,0,none⟩) Tryz.results50 (by simp [Act.put]) (by simp [Act.put]) (j1K HF.out.1)) (by simp [Act.put]) ?_;exact ⟨(Pl.mk (⟨1,q,⟨0,false,⟨0,0,0,0⟩,⟨0,0,0,0⟩⟩,[],0,0,[],0,0⟩:Nd) []:Pl (n+1)),(.slice none 0 0),(.slice none 0 0),(.slice none 0 0),2,rfl,by omega,by omega,HSZ.out,HF.out.2.2.2,HF.out.2.1,HF.out.2.2.1⟩
  ·
   have hq5f:(q5==0)=false:=by simpa using hq5
   cases n with
   | zero=>omega
   | succ m=>
   obtain ⟨T',hT'⟩:∃ T',T'=3 ^ m:=⟨_,rfl⟩;have hTT:T'*3=T:=by rw [HT.out,hT',Nat.pow_succ]
   have HT':=hidden hT';have hT1':1<=T':=by rw [hT']; exact Nat.pow_pos (by omega)
   have hwr1:IntKind.i64.wrap (deep - 1)=deep - 1:=by rw [wrap_small] <;> omega
   have hs2:w.heap.size<=w2.heap.size:=S2.out.2.1.size;have HI2:=hidden (HIH.out m rfl g (P+1) (deep - 1) w2 (by omega) (by omega) (by omega) (by rw [<-hT']; omega) (by rw [<-hT']; omega) S2.out.1);rw [<-hT'] at HI2;have hdm:deep - 1<=(m:Int)+1:=by omega
   clear hq5 hdn hT';go_wp2_with fail;refine HI2.out.mono ?_;rintro e w3 ⟨a,va,ka,da,wd,rfl,hw1,hw6,hza,hpa,hr9,hg9⟩;have S3:=hidden (S2.out.call hgw hg9 hr9);have HOA:=hidden hpa.held.ones;have HZA:=hidden hza;have HTH:Hid ((w3.alloc (.cells o19.toArray 31)).there w3.heap.size 0 (z1J a.nd va ka da).toArray.size):=(z1X w3 z19 rfl).there;have hii:(Tryz.prog.info? 31).map (·.size)=some (z1J a.nd va ka da).toArray.size:=by kernel_rfl
   have H1:Hid ((z1J a.nd va ka da).toArray.all (·.oneCell')=true):=j1W a.nd va ka da HOA.out.1 HOA.out.2.1 HOA.out.2.2;have hs3:w.heap.size<w3.heap.size:=S3.out.2.2.lt;have HPA:=hidden hpa;clear hpa hr9 hg9 hza HI2 S2 S0;go_wp2_with ((with_reducible refine wpList_store_mid rfl 31 (.tmp 6) (.tmp 30) rfl w3.heap.size 0 (z1J a.nd va ka da).toArray ?_ ?_ HTH.out hii H1.out ?_); rfl; rfl; generalize hW9:World.setCells _ _ _ _=W9);have S4:=hidden (StR.keepW S3.out hgw HPA.out hs2 hW9);clear hW9 HTH H1 hii HPA S3;refine (z1L g _ 8 _ (by omega) (by omega) (by omega) S4.out.1.1).mono ?_;rintro e w5 ⟨q8,q80,q81,rfl,hr9,hg9⟩;have S5:=hidden (S4.out.call hgw hg9 hr9);clear hr9 hg9;generalize w3.heap.size=A at S5 ⊢;clear S4 hs3;by_cases hW:q8=0\/q8=1
   ·
    rcases hW with rfl | rfl
    all_goals
     have SD:=hidden (S5.out.below hgw (below_drewN (Below.refl _ _) 1))
     go_wp2_with fail
     refine wp_region_held_drew (S:=(fun X:World=>X.rangeAt A 0 (z1J a.nd va ka da))) (by kernel_rfl) ?_ (fun hHeld=> ?_)
     ·
      (try dsimp only); exact SD.out.2.2.1.range
     refine tk 0 ?_; simp only [ap]
     refine tk 1 ?_; simp only [ap]
     refine tl 3 (v:=.agg (z1J a.nd va ka da).toArray) rfl (yieldsIf_load_mid (by rfl) 31 _ rfl A 0 rfl (z1J a.nd va ka da) _ (fun x h=>h) Tryz.underlying31 rfl (j2I a.nd va ka da)) ?_
     simp only [ap]
     refine tk 6 ?_; simp only [ap]
     refine wpAnyH_ready (rs:=[2,4]) (by kernel_rfl) (by simp) ?_
     refine AllReadyH.cons rfl (fun K hK=> ?_) (AllReadyH.cons rfl (fun K hK=> ?_) AllReadyH.nil)
     ·
      go_simp;(go_at_call 92; refine (k3D g _ wd _ (by omega) (by omega) (by omega) SD.out.1.1).mono ?_; rintro e wc ⟨t,rfl,-,hr9,hg9⟩);have SC:=hidden (SD.out.call hgw hg9 hr9);clear hr9 hg9;refine hK.out _ _ ?_ (fun hHeld=> ?_)
      ·
       (try dsimp only); exact SC.out.2.2.1.range
      clear hK K;try simp only [ap]
      refine r1 4 (fun K hK=> ?_);go_simp;have SK:=hidden (SC.out.below hgw (z1B (.cells (z1J a.nd va ka da).toArray 31)));have HK:=hidden (z1X wc (z1J a.nd va ka da) rfl);have hrk:w.heap.size<wc.heap.size:=SC.out.1.2.2.lt;have HPT:=hidden (SK.out.one HK.out hrk (⟨2,0,t,[],0,0,[],0,0⟩:Nd) rfl rfl);have HTH:Hid ((wc.alloc (.cells (z1J a.nd va ka da).toArray 31)).there w.heap.size 0 (g19 2 0 t (.slice none 0 0) 0 0 (.slice none 0 0) 0 0 (.slice (some ⟨wc.heap.size,0,none⟩) 1 1)).toArray.size):=SK.out.1.2.2.there;have hii:(Tryz.prog.info? 31).map (·.size)=some (g19 2 0 t (.slice none 0 0) 0 0 (.slice none 0 0) 0 0 (.slice (some ⟨wc.heap.size,0,none⟩) 1 1)).toArray.size:=by kernel_rfl
      have H1:Hid ((g19 2 0 t (.slice none 0 0) 0 0 (.slice none 0 0) 0 0 (.slice (some ⟨wc.heap.size,0,none⟩) 1 1)).toArray.all (·.oneCell')=true):=j1W (⟨2,0,t,[],0,0,[],0,0⟩:Nd) (.slice none 0 0) (.slice none 0 0) (.slice (some ⟨wc.heap.size,0,none⟩) 1 1) rfl rfl rfl;refine hK.out _ _ ?_ (fun hHeld=> ?_)
      ·
       (try dsimp only); exact SK.out.2.2.1.range
      clear hK K;try simp only [ap]
      refine tk 5 ?_; simp only [ap];refine r1 7 (fun K hK=> ?_);refine q1I rfl (wp_store_mid 31 (.tmp 4) (.tmp 42) rfl w.heap.size 0 (g19 2 0 t (.slice none 0 0) 0 0 (.slice none 0 0) 0 0 (.slice (some ⟨wc.heap.size,0,none⟩) 1 1)).toArray (by simp [Act.eval]) (by simp [Act.eval]) HTH.out hii H1.out ?_);generalize hW9:World.setCells _ _ _ _=W9;refine hK.out _ _ ?_ (fun hHeld=> ?_)
      ·
       (try dsimp only); exact (SK.out.2.2.1.past (fun e=>by have:=SK.out.2.2.2; omega) hW9).range
      clear hK K;try simp only [Act.put]
      refine tk 8 ?_; simp only [ap];refine dn ?_;have HF:=hidden (StR.told (P':=P+1000*T) SK.out.1 hgw HPT.out (by omega) hW9);have HSZ:Hid (Pl.sz (m+1+1) (Pl.mk (⟨2,0,t,[],0,0,[],0,0⟩:Nd) [a]:Pl (m+1+1))<=10*T):=(by show _<=_; rw [<-hTT]; exact v3U _ a (by simp) (by simp) HZA.out hT1');clear hHeld;go_wp2_with fail;refine bodyPost_ret (v:=.tuple #[.agg (g19 2 0 t (.slice none 0 0) 0 0 (.slice none 0 0) 0 0 (.slice (some ⟨wc.heap.size,0,none⟩) 1 1)).toArray,.int .i64 wd]) (q1P (a:=4) (b:=5) (t:=31) (ad:=⟨w.heap.size,0,none⟩) Tryz.results50 (by simp [Act.put]) (by simp [Act.put]) (j1K HF.out.1)) (by simp [Act.put]) ?_;exact ⟨(Pl.mk (⟨2,0,t,[],0,0,[],0,0⟩:Nd) [a]:Pl (m+1+1)),(.slice none 0 0),(.slice none 0 0),(.slice (some ⟨wc.heap.size,0,none⟩) 1 1),wd,rfl,by omega,by omega,HSZ.out,HF.out.2.2.2,HF.out.2.1,HF.out.2.2.1⟩
     ·
      go_simp;have SK:=hidden (SD.out.below hgw (z1B (.cells (z1J a.nd va ka da).toArray 31)));have HK:=hidden (z1X (w5.drewN 1) (z1J a.nd va ka da) rfl);have hrk:w.heap.size<w5.heap.size:=SD.out.1.2.2.lt;refine hK.out _ _ ?_ (fun hHeld=> ?_)
      ·
       (try dsimp only); exact SK.out.2.2.1.range
      clear hK K;try simp only [ap]
      refine r1 2 (fun K hK=> ?_);go_simp;(go_at_call 92; refine (k3D g _ wd _ (by omega) (by omega) (by omega) SK.out.1.1).mono ?_; rintro e wc ⟨t,rfl,-,hr9,hg9⟩);have SC:=hidden (SK.out.call hgw hg9 hr9);have HKC:=hidden (HK.out.grown hg9 (fun e=>by simp at e; have:=hrk; omega));clear hr9 hg9;have HPT:=hidden (SC.out.one HKC.out hrk (⟨2,0,t,[],0,0,[],0,0⟩:Nd) rfl rfl);have HTH:Hid (wc.there w.heap.size 0 (g19 2 0 t (.slice none 0 0) 0 0 (.slice none 0 0) 0 0 (.slice (some ⟨w5.heap.size,0,none⟩) 1 1)).toArray.size):=SC.out.1.2.2.there;have hii:(Tryz.prog.info? 31).map (·.size)=some (g19 2 0 t (.slice none 0 0) 0 0 (.slice none 0 0) 0 0 (.slice (some ⟨w5.heap.size,0,none⟩) 1 1)).toArray.size:=by kernel_rfl
      have H1:Hid ((g19 2 0 t (.slice none 0 0) 0 0 (.slice none 0 0) 0 0 (.slice (some ⟨w5.heap.size,0,none⟩) 1 1)).toArray.all (·.oneCell')=true):=j1W (⟨2,0,t,[],0,0,[],0,0⟩:Nd) (.slice none 0 0) (.slice none 0 0) (.slice (some ⟨w5.heap.size,0,none⟩) 1 1) rfl rfl rfl;refine hK.out _ _ ?_ (fun hHeld=> ?_)
      ·
       (try dsimp only); exact SC.out.2.2.1.range
      clear hK K;try simp only [ap]
      refine tk 5 ?_; simp only [ap];refine r1 7 (fun K hK=> ?_);refine q1I rfl (wp_store_mid 31 (.tmp 4) (.tmp 42) rfl w.heap.size 0 (g19 2 0 t (.slice none 0 0) 0 0 (.slice none 0 0) 0 0 (.slice (some ⟨w5.heap.size,0,none⟩) 1 1)).toArray (by simp [Act.eval]) (by simp [Act.eval]) HTH.out hii H1.out ?_);generalize hW9:World.setCells _ _ _ _=W9;refine hK.out _ _ ?_ (fun hHeld=> ?_)
      ·
       (try dsimp only); exact (SC.out.2.2.1.past (fun e=>by have:=SC.out.2.2.2; omega) hW9).range
      clear hK K;try simp only [Act.put]
      refine tk 8 ?_; simp only [ap];refine dn ?_;have HF:=hidden (StR.told (P':=P+1000*T) SC.out.1 hgw HPT.out (by omega) hW9);have HSZ:Hid (Pl.sz (m+1+1) (Pl.mk (⟨2,0,t,[],0,0,[],0,0⟩:Nd) [a]:Pl (m+1+1))<=10*T):=(by show _<=_; rw [<-hTT]; exact v3U _ a (by simp) (by simp) HZA.out hT1');clear hHeld;go_wp2_with fail;refine bodyPost_ret (v:=.tuple #[.agg (g19 2 0 t (.slice none 0 0) 0 0 (.slice none 0 0) 0 0 (.slice (some ⟨w5.heap.size,0,none⟩) 1 1)).toArray,.int .i64 wd]) (q1P (a:=4) (b:=5) (t:=31) (ad:=⟨w.heap.size,0,none⟩) Tryz.results50 (by simp [Act.put]) (by simp [Act.put]) (j1K HF.out.1)) (by simp [Act.put]) ?_;exact ⟨(Pl.mk (⟨2,0,t,[],0,0,[],0,0⟩:Nd) [a]:Pl (m+1+1)),(.slice none 0 0),(.slice none 0 0),(.slice (some ⟨w5.heap.size,0,none⟩) 1 1),wd,rfl,by omega,by omega,HSZ.out,HF.out.2.2.2,HF.out.2.1,HF.out.2.2.1⟩
   by_cases hM:q8=2
   ·
    subst hM;have HTH:Hid (((w5.alloc (.cells (z1J a.nd va ka da).toArray 31)).alloc (.cells o19.toArray 31)).there (w5.heap.size+1) 0 (h19 3 0 (.slice none 0 0) 0 0 (.slice none 0 0) 0 0 (.slice (some ⟨w5.heap.size,0,none⟩) 1 1)).toArray.size):=(by have h:=(z1X (w5.alloc (.cells (z1J a.nd va ka da).toArray 31)) z19 rfl).there; rw [q1C] at h; exact h);have hii:(Tryz.prog.info? 31).map (·.size)=some (h19 3 0 (.slice none 0 0) 0 0 (.slice none 0 0) 0 0 (.slice (some ⟨w5.heap.size,0,none⟩) 1 1)).toArray.size:=by kernel_rfl
    have H1:Hid ((h19 3 0 (.slice none 0 0) 0 0 (.slice none 0 0) 0 0 (.slice (some ⟨w5.heap.size,0,none⟩) 1 1)).toArray.all (·.oneCell')=true):=j1W (⟨3,0,⟨0,false,⟨0,0,0,0⟩,⟨0,0,0,0⟩⟩,[],0,0,[],0,0⟩:Nd) (.slice none 0 0) (.slice none 0 0) (.slice (some ⟨w5.heap.size,0,none⟩) 1 1) rfl rfl rfl;have hla:(Tryz.prog.info? 31).map (·.size)=some (z1J a.nd va ka da).length:=by kernel_rfl
    have HBA:Hid (w5.rangeAt A 0 (z1J a.nd va ka da)):=S5.out.2.2.1.range;have hs5:w.heap.size<w5.heap.size:=S5.out.1.2.2.lt;obtain ⟨i0,hi0,hz0,hz1,hz2⟩:=info_parts infoC4;go_wp2_with (first | ((with_reducible refine wpList_store_mid rfl 31 (.tmp 8) (.tmp 48) rfl (w5.heap.size+1) 0 (h19 3 0 (.slice none 0 0) 0 0 (.slice none 0 0) 0 0 (.slice (some ⟨w5.heap.size,0,none⟩) 1 1)).toArray ?_ ?_ HTH.out hii H1.out ?_); rfl; rfl; generalize hW9:World.setCells _ _ _ _=W9) | ((with_reducible refine wpList_load_mid rfl 31 (.tmp 6) rfl A 0 ?_ (z1J a.nd va ka da) _ HBA.out Tryz.underlying31 ?_ hla ?_); rfl; rfl));have S6:=hidden (S5.out.part2 hgw (⟨3,0,⟨0,false,⟨0,0,0,0⟩,⟨0,0,0,0⟩⟩,[],0,0,[],0,0⟩:Nd) rfl rfl hW9);obtain ⟨HI,HHI⟩:∃ HI,Hid (HI=W9.heap.size):=⟨_,rfl⟩;rw [<-HHI.out] at S6;clear hW9 HTH hii H1 S5 HBA hla;refine (z1L g _ 3 _ (by omega) (by omega) (by omega) S6.out.1.1).mono ?_;rintro e w6 ⟨q3,q30,q31,rfl,hr9,hg9⟩;have S7:=hidden (S6.out.call hgw hg9 hr9);clear hr9 hg9;obtain ⟨n3,rfl⟩:=Int.eq_ofNat_of_zero_le q30;obtain ⟨P7,HP7⟩:∃ P7,P7=P+1+1000*T'+1+1:=⟨_,rfl⟩;rw [<-HP7] at S7;clear S6 HHI;have hwr3:IntKind.i64.wrap (1+(n3:Int))=((n3+1:Nat):Int):=by rw [wrap_small] <;> omega
    go_wp2_with fail;go_loopw [9] (fun i wr=> ∃ (k:Nat) (cs:List Cel) (vc:Value),k<=3/\cs.length+k=n3+1/\i = .int .i64 k/\Hid (StP w wr g (P7+3*cs.length) HI (w5.heap.size+1) (m+1) (Pl.mk (⟨3,0,⟨0,false,⟨0,0,0,0⟩,⟨0,0,0,0⟩⟩,cs,0,0,[],0,0⟩:Nd) [a]) vc (.slice none 0 0) (.slice (some ⟨w5.heap.size,0,none⟩) 1 1))) (fun i _=>(intOf i).toNat)
    case atStart=>exact ⟨n3+1,[],_,by omega,by simp,by go_num,S7.out⟩
    case round=>
     obtain ⟨k,cs,vc,hk3,hck,rfl,SD0⟩:=hrel;clear S7;by_cases hlt:0<k
     ·
      have hltI:(0:Int)<(k:Int):=by omega
      have SD:=hidden (SD0.out.below hgw (below_drewN (Below.refl _ _) 1));go_wp2_with fail;refine wp_region_held_drew (S:=(fun _:World=>True)) (by kernel_rfl) ?_ (fun hHeld=> ?_)
      ·
       (try dsimp only); (try trivial)
      refine tk 0 ?_; simp only [ap];refine tk 2 ?_; simp only [ap];refine tk 3 ?_; simp only [ap];refine wpAnyH_ready (rs:=[1,4]) (by kernel_rfl) (by simp) ?_;refine AllReadyH.cons rfl (fun K hK=> ?_) (AllReadyH.cons rfl (fun K hK=> ?_) AllReadyH.nil)
      ·
       have c12:=SD0.out.2.2.1.cell (j:=12) rfl;go_simp;refine hK.out _ _ ?_ (fun hHeld=> ?_)
       ·
        (try dsimp only); (try trivial)
       clear hK K;try simp only [ap]
       refine r1 4 (fun K hK=> ?_);go_simp;(go_at_call 93; refine (q2R g _ wd _ (by omega) (by omega) (by omega) SD.out.1.1).mono ?_; rintro e wc ⟨c,rfl,-,hr9,hg9⟩);have SC:=hidden (SD.out.call hgw hg9 hr9);clear hr9 hg9;refine hK.out _ _ ?_ (fun hHeld=> ?_)
       ·
        (try dsimp only); (try trivial)
       clear hK K;try simp only [ap]
       refine r1 5 (fun K hK=> ?_);go_simp;have SK:=hidden (SC.out.below hgw (z1B (.cells #[.int .i64 c.k,.int .i64 c.a,.int .i64 c.b,.int .i64 c.n] 24)));refine hK.out _ _ ?_ (fun hHeld=> ?_)
       ·
        (try dsimp only); (try trivial)
       clear hK K;try simp only [ap]
       refine r1 6 (fun K hK=> ?_);have hbs:=SK.out.2.1.2.1;refine q1I rfl (wp_append_own _ (.tmp 57) (.tmp 61) 27 rfl HI 24 i0 (.agg #[.int .i64 0,.int .i64 0,.int .i64 0,.int .i64 0]) 4 32 Tryz.underlying27 hi0 hz0 hz1 hz2 rfl (by decide) vc cs.length (j2V cs) (by simp [Act.eval]) SK.out.2.1.2.2.2.1 ⟨wc.heap.size,0,none⟩ 1 1 [.int .i64 c.k,.int .i64 c.a,.int .i64 c.b,.int .i64 c.n] (by simp [Act.eval]) rfl (x5P wc _ _ _ _) (one4 _ _ _ _) (by unfold maxLen; omega) (by omega) hbs ?_);intro vc' w6 hown6 hgrow6 _;obtain ⟨ub,ud,rfl⟩:=q1H hown6;obtain ⟨B6,R6,S6⟩:=SK.out.cell hgw hgrow6 c hown6;have HS6:=hidden S6;have c12':=B6.cell (j:=12) rfl;have fz:=B6.frozen 12;clear hown6 hgrow6 S6 R6 hbs;refine hK.out _ _ ?_ (fun hHeld=> ?_)
       ·
        (try dsimp only); (try trivial)
       clear hK K;try simp only [ap]
       refine tk 7 ?_; simp only [ap];refine r1 8 (fun K hK=> ?_);go_simp;refine hK.out _ _ ?_ (fun hHeld=> ?_)
       ·
        (try dsimp only); (try trivial)
       clear hK K;try simp only [Act.put]
       refine dn ?_;have HS7:Hid (StP w (w6.setCell ⟨(w5.heap.size+1),12,none⟩ (.slice ub (cs.length+1) ud)) g (P7+3*(cs++[c]).length) HI (w5.heap.size+1) (m+1) (Pl.mk (⟨3,0,⟨0,false,⟨0,0,0,0⟩,⟨0,0,0,0⟩⟩,(cs++[c]),0,0,[],0,0⟩:Nd) [a]) (.slice ub (cs.length+1) ud) (.slice none 0 0) (.slice (some ⟨w5.heap.size,0,none⟩) 1 1)):=(by show StP _ _ _ _ _ _ _ _ _ _ _; have h:=HS6.out; rw [List.length_append]; exact ⟨h.1.le (by simp; omega),h.2⟩);clear hHeld B6 c12' fz HS6;go_wp2;go_roundw
       case rel=>exact ⟨k - 1,cs++[c],_,by omega,by simp; omega,by go_num,HS7.out⟩
       case measure=>simp [intOf]; omega
      ·
       go_simp;(go_at_call 93; refine (q2R g _ wd _ (by omega) (by omega) (by omega) SD.out.1.1).mono ?_; rintro e wc ⟨c,rfl,-,hr9,hg9⟩);have SC:=hidden (SD.out.call hgw hg9 hr9);clear hr9 hg9;refine hK.out _ _ ?_ (fun hHeld=> ?_)
       ·
        (try dsimp only); (try trivial)
       clear hK K;try simp only [ap]
       refine wpAnyH_ready (rs:=[1,5]) (by kernel_rfl) (by simp) ?_;refine AllReadyH.cons rfl (fun K hK=> ?_) (AllReadyH.cons rfl (fun K hK=> ?_) AllReadyH.nil)
       ·
        have c12:=SC.out.2.2.1.cell (j:=12) rfl;go_simp;refine hK.out _ _ ?_ (fun hHeld=> ?_)
        ·
         (try dsimp only); (try trivial)
        clear hK K;try simp only [ap]
        refine r1 5 (fun K hK=> ?_);go_simp;have SK:=hidden (SC.out.below hgw (z1B (.cells #[.int .i64 c.k,.int .i64 c.a,.int .i64 c.b,.int .i64 c.n] 24)));refine hK.out _ _ ?_ (fun hHeld=> ?_)
        ·
         (try dsimp only); (try trivial)
        clear hK K;try simp only [ap]
        refine r1 6 (fun K hK=> ?_);have hbs:=SK.out.2.1.2.1;refine q1I rfl (wp_append_own _ (.tmp 57) (.tmp 61) 27 rfl HI 24 i0 (.agg #[.int .i64 0,.int .i64 0,.int .i64 0,.int .i64 0]) 4 32 Tryz.underlying27 hi0 hz0 hz1 hz2 rfl (by decide) vc cs.length (j2V cs) (by simp [Act.eval]) SK.out.2.1.2.2.2.1 ⟨wc.heap.size,0,none⟩ 1 1 [.int .i64 c.k,.int .i64 c.a,.int .i64 c.b,.int .i64 c.n] (by simp [Act.eval]) rfl (x5P wc _ _ _ _) (one4 _ _ _ _) (by unfold maxLen; omega) (by omega) hbs ?_);intro vc' w6 hown6 hgrow6 _;obtain ⟨ub,ud,rfl⟩:=q1H hown6;obtain ⟨B6,R6,S6⟩:=SK.out.cell hgw hgrow6 c hown6;have HS6:=hidden S6;have c12':=B6.cell (j:=12) rfl;have fz:=B6.frozen 12;clear hown6 hgrow6 S6 R6 hbs;refine hK.out _ _ ?_ (fun hHeld=> ?_)
        ·
         (try dsimp only); (try trivial)
        clear hK K;try simp only [ap]
        refine tk 7 ?_; simp only [ap];refine r1 8 (fun K hK=> ?_);go_simp;refine hK.out _ _ ?_ (fun hHeld=> ?_)
        ·
         (try dsimp only); (try trivial)
        clear hK K;try simp only [Act.put]
        refine dn ?_;have HS7:Hid (StP w (w6.setCell ⟨(w5.heap.size+1),12,none⟩ (.slice ub (cs.length+1) ud)) g (P7+3*(cs++[c]).length) HI (w5.heap.size+1) (m+1) (Pl.mk (⟨3,0,⟨0,false,⟨0,0,0,0⟩,⟨0,0,0,0⟩⟩,(cs++[c]),0,0,[],0,0⟩:Nd) [a]) (.slice ub (cs.length+1) ud) (.slice none 0 0) (.slice (some ⟨w5.heap.size,0,none⟩) 1 1)):=(by show StP _ _ _ _ _ _ _ _ _ _ _; have h:=HS6.out; rw [List.length_append]; exact ⟨h.1.le (by simp; omega),h.2⟩);clear hHeld B6 c12' fz HS6;go_wp2;go_roundw
        case rel=>exact ⟨k - 1,cs++[c],_,by omega,by simp; omega,by go_num,HS7.out⟩
        case measure=>simp [intOf]; omega
       ·
        go_simp;have SK:=hidden (SC.out.below hgw (z1B (.cells #[.int .i64 c.k,.int .i64 c.a,.int .i64 c.b,.int .i64 c.n] 24)));refine hK.out _ _ ?_ (fun hHeld=> ?_)
        ·
         (try dsimp only); (try trivial)
        clear hK K;try simp only [ap]
        refine r1 1 (fun K hK=> ?_);have c12:=SC.out.2.2.1.cell (j:=12) rfl;have c12k:=SK.out.2.2.1.cell (j:=12) rfl;go_simp;refine hK.out _ _ ?_ (fun hHeld=> ?_)
        ·
         (try dsimp only); (try trivial)
        clear hK K;try simp only [ap]
        refine r1 6 (fun K hK=> ?_);have hbs:=SK.out.2.1.2.1;refine q1I rfl (wp_append_own _ (.tmp 57) (.tmp 61) 27 rfl HI 24 i0 (.agg #[.int .i64 0,.int .i64 0,.int .i64 0,.int .i64 0]) 4 32 Tryz.underlying27 hi0 hz0 hz1 hz2 rfl (by decide) vc cs.length (j2V cs) (by simp [Act.eval]) SK.out.2.1.2.2.2.1 ⟨wc.heap.size,0,none⟩ 1 1 [.int .i64 c.k,.int .i64 c.a,.int .i64 c.b,.int .i64 c.n] (by simp [Act.eval]) rfl (x5P wc _ _ _ _) (one4 _ _ _ _) (by unfold maxLen; omega) (by omega) hbs ?_);intro vc' w6 hown6 hgrow6 _;obtain ⟨ub,ud,rfl⟩:=q1H hown6;obtain ⟨B6,R6,S6⟩:=SK.out.cell hgw hgrow6 c hown6;have HS6:=hidden S6;have c12':=B6.cell (j:=12) rfl;have fz:=B6.frozen 12;clear hown6 hgrow6 S6 R6 hbs;refine hK.out _ _ ?_ (fun hHeld=> ?_)
        ·
         (try dsimp only); (try trivial)
        clear hK K;try simp only [ap]
        refine tk 7 ?_; simp only [ap];refine r1 8 (fun K hK=> ?_);go_simp;refine hK.out _ _ ?_ (fun hHeld=> ?_)
        ·
         (try dsimp only); (try trivial)
        clear hK K;try simp only [Act.put]
        refine dn ?_;have HS7:Hid (StP w (w6.setCell ⟨(w5.heap.size+1),12,none⟩ (.slice ub (cs.length+1) ud)) g (P7+3*(cs++[c]).length) HI (w5.heap.size+1) (m+1) (Pl.mk (⟨3,0,⟨0,false,⟨0,0,0,0⟩,⟨0,0,0,0⟩⟩,(cs++[c]),0,0,[],0,0⟩:Nd) [a]) (.slice ub (cs.length+1) ud) (.slice none 0 0) (.slice (some ⟨w5.heap.size,0,none⟩) 1 1)):=(by show StP _ _ _ _ _ _ _ _ _ _ _; have h:=HS6.out; rw [List.length_append]; exact ⟨h.1.le (by simp; omega),h.2⟩);clear hHeld B6 c12' fz HS6;go_wp2;go_roundw
        case rel=>exact ⟨k - 1,cs++[c],_,by omega,by simp; omega,by go_num,HS7.out⟩
        case measure=>simp [intOf]; omega
     ·
      obtain rfl:k=0:=by omega
      obtain ⟨ua,uc,hvc⟩:=q1H SD0.out.2.1.2.2.2.1;have hvc':vc = .slice ua cs.length uc:=hvc;subst hvc';have SE:=hidden (SD0.out.below hgw (below_drewN (Below.refl _ _) 1));have HTH:Hid ((wr.drewN 1).there w.heap.size 0 (h19 3 0 (.slice ua cs.length uc) 0 0 (.slice none 0 0) 0 0 (.slice (some ⟨w5.heap.size,0,none⟩) 1 1)).toArray.size):=SE.out.1.2.2.there;have hii:(Tryz.prog.info? 31).map (·.size)=some (h19 3 0 (.slice ua cs.length uc) 0 0 (.slice none 0 0) 0 0 (.slice (some ⟨w5.heap.size,0,none⟩) 1 1)).toArray.size:=by kernel_rfl
      have H1:Hid ((h19 3 0 (.slice ua cs.length uc) 0 0 (.slice none 0 0) 0 0 (.slice (some ⟨w5.heap.size,0,none⟩) 1 1)).toArray.all (·.oneCell')=true):=j1W (⟨3,0,⟨0,false,⟨0,0,0,0⟩,⟨0,0,0,0⟩⟩,cs,0,0,[],0,0⟩:Nd) (.slice ua cs.length uc) (.slice none 0 0) (.slice (some ⟨w5.heap.size,0,none⟩) 1 1) rfl rfl rfl;clear SD0 hvc;go_wp2_with fail;refine wp_region_held_drew (S:=(fun X:World=>X.rangeAt (w5.heap.size+1) 0 (h19 3 0 (.slice ua cs.length uc) 0 0 (.slice none 0 0) 0 0 (.slice (some ⟨w5.heap.size,0,none⟩) 1 1))/\X.cell? ⟨(w5.heap.size+1),12,none⟩=some (.slice ua cs.length uc))) (by kernel_rfl) ?_ (fun hHeld=> ?_)
      ·
       (try dsimp only); exact ⟨SE.out.2.2.1.range,SE.out.2.2.1.cell (j:=12) rfl⟩
      refine tl 0 (v:=.agg (h19 3 0 (.slice ua cs.length uc) 0 0 (.slice none 0 0) 0 0 (.slice (some ⟨w5.heap.size,0,none⟩) 1 1)).toArray) rfl (yieldsIf_load_mid (by rfl) 31 _ rfl (w5.heap.size+1) 0 rfl (h19 3 0 (.slice ua cs.length uc) 0 0 (.slice none 0 0) 0 0 (.slice (some ⟨w5.heap.size,0,none⟩) 1 1)) _ (fun x h=>h.1) Tryz.underlying31 rfl (j2I (⟨3,0,⟨0,false,⟨0,0,0,0⟩,⟨0,0,0,0⟩⟩,cs,0,0,[],0,0⟩:Nd) (.slice ua cs.length uc) (.slice none 0 0) (.slice (some ⟨w5.heap.size,0,none⟩) 1 1))) ?_;simp only [ap];refine tk 1 ?_; simp only [ap];refine tk 2 ?_; simp only [ap];refine tk 3 ?_; simp only [ap];refine r1 4 (fun K hK=> ?_);refine q1I rfl (wp_store_mid 31 (.tmp 4) (.tmp 64) rfl w.heap.size 0 (h19 3 0 (.slice ua cs.length uc) 0 0 (.slice none 0 0) 0 0 (.slice (some ⟨w5.heap.size,0,none⟩) 1 1)).toArray (by simp [Act.eval]) (by simp [Act.eval]) HTH.out hii H1.out ?_);generalize hW9:World.setCells _ _ _ _=W9;refine hK.out _ _ ?_ (fun hHeld=> ?_)
      ·
       (try dsimp only); exact ⟨(SE.out.2.2.1.past (by omega) hW9).range,(SE.out.2.2.1.past (by omega) hW9).cell (j:=12) rfl⟩
      clear hK K;try simp only [Act.put]
      refine tk 5 ?_; simp only [ap];refine dn ?_;have HF:=hidden (StR.told (P':=P+1000*T) SE.out.1 hgw SE.out.done (by omega) hW9);have HSZ:Hid (Pl.sz (m+1+1) (Pl.mk (⟨3,0,⟨0,false,⟨0,0,0,0⟩,⟨0,0,0,0⟩⟩,cs,0,0,[],0,0⟩:Nd) [a]:Pl (m+1+1))<=10*T):=(by show _<=_; rw [<-hTT]; exact v3U _ a (by simp; omega) (by simp) HZA.out hT1');clear hHeld;go_wp2_with fail;refine bodyPost_ret (v:=.tuple #[.agg (h19 3 0 (.slice ua cs.length uc) 0 0 (.slice none 0 0) 0 0 (.slice (some ⟨w5.heap.size,0,none⟩) 1 1)).toArray,.int .i64 (cs.length:Int)]) (q1P (a:=4) (b:=5) (t:=31) (ad:=⟨w.heap.size,0,none⟩) Tryz.results50 (by simp [Act.put]) (by simp [Act.put]) (j1K HF.out.1)) (by simp [Act.put]) ?_;exact ⟨(Pl.mk (⟨3,0,⟨0,false,⟨0,0,0,0⟩,⟨0,0,0,0⟩⟩,cs,0,0,[],0,0⟩:Nd) [a]:Pl (m+1+1)),(.slice ua cs.length uc),(.slice none 0 0),(.slice (some ⟨w5.heap.size,0,none⟩) 1 1),(cs.length:Int),rfl,by omega,by omega,HSZ.out,HF.out.2.2.2,HF.out.2.1,HF.out.2.2.1⟩
   by_cases hO:q8=6
   ·
    subst hO;have SK:=hidden (S5.out.below hgw (z1B (.cells (z1J a.nd va ka da).toArray 31)));have HPT:=hidden (SK.out.one (z1X w5 (z1J a.nd va ka da) rfl) S5.out.1.2.2.lt (⟨6,0,⟨0,false,⟨0,0,0,0⟩,⟨0,0,0,0⟩⟩,[],0,0,[],0,0⟩:Nd) rfl rfl);have HTH:Hid ((w5.alloc (.cells (z1J a.nd va ka da).toArray 31)).there w.heap.size 0 (h19 6 0 (.slice none 0 0) 0 0 (.slice none 0 0) 0 0 (.slice (some ⟨w5.heap.size,0,none⟩) 1 1)).toArray.size):=SK.out.1.2.2.there;have hii:(Tryz.prog.info? 31).map (·.size)=some (h19 6 0 (.slice none 0 0) 0 0 (.slice none 0 0) 0 0 (.slice (some ⟨w5.heap.size,0,none⟩) 1 1)).toArray.size:=by kernel_rfl
    have H1:Hid ((h19 6 0 (.slice none 0 0) 0 0 (.slice none 0 0) 0 0 (.slice (some ⟨w5.heap.size,0,none⟩) 1 1)).toArray.all (·.oneCell')=true):=j1W (⟨6,0,⟨0,false,⟨0,0,0,0⟩,⟨0,0,0,0⟩⟩,[],0,0,[],0,0⟩:Nd) (.slice none 0 0) (.slice none 0 0) (.slice (some ⟨w5.heap.size,0,none⟩) 1 1) rfl rfl rfl;have hla:(Tryz.prog.info? 31).map (·.size)=some (z1J a.nd va ka da).length:=by kernel_rfl
    have HBA:Hid (w5.rangeAt A 0 (z1J a.nd va ka da)):=S5.out.2.2.1.range;go_wp2_with (first | ((with_reducible refine wpList_store_mid rfl 31 (.tmp 4) (.tmp 125) rfl w.heap.size 0 (h19 6 0 (.slice none 0 0) 0 0 (.slice none 0 0) 0 0 (.slice (some ⟨w5.heap.size,0,none⟩) 1 1)).toArray ?_ ?_ HTH.out hii H1.out ?_); rfl; rfl; generalize hW9:World.setCells _ _ _ _=W9) | ((with_reducible refine wpList_load_mid rfl 31 (.tmp 6) rfl A 0 ?_ (z1J a.nd va ka da) _ HBA.out Tryz.underlying31 ?_ hla ?_); rfl; rfl));have HF:=hidden (StR.told (P':=P+1000*T) SK.out.1 hgw HPT.out (by omega) hW9);have HSZ:Hid (Pl.sz (m+1+1) (Pl.mk (⟨6,0,⟨0,false,⟨0,0,0,0⟩,⟨0,0,0,0⟩⟩,[],0,0,[],0,0⟩:Nd) [a]:Pl (m+1+1))<=10*T):=(by show _<=_; rw [<-hTT]; exact v3U _ a (by simp) (by simp) HZA.out hT1');refine bodyPost_ret (v:=.tuple #[.agg (h19 6 0 (.slice none 0 0) 0 0 (.slice none 0 0) 0 0 (.slice (some ⟨w5.heap.size,0,none⟩) 1 1)).toArray,.int .i64 wd]) (q1P (a:=4) (b:=5) (t:=31) (ad:=⟨w.heap.size,0,none⟩) Tryz.results50 (by simp [Act.put]) (by simp [Act.put]) (j1K HF.out.1)) (by simp [Act.put]) ?_;exact ⟨(Pl.mk (⟨6,0,⟨0,false,⟨0,0,0,0⟩,⟨0,0,0,0⟩⟩,[],0,0,[],0,0⟩:Nd) [a]:Pl (m+1+1)),(.slice none 0 0),(.slice none 0 0),(.slice (some ⟨w5.heap.size,0,none⟩) 1 1),wd,rfl,by omega,by omega,HSZ.out,HF.out.2.2.2,HF.out.2.1,HF.out.2.2.1⟩
   by_cases hJ:q8=3\/q8=4
   ·
    rcases hJ with rfl | rfl
    all_goals
     go_wp2_with fail
     refine (q6U _ _ _).mono ?_
     rintro e w6 ⟨rfl,hw6⟩
     obtain rfl:=hw6.symm
     obtain ⟨dx,hdx⟩:∃ dx:Int,dx=(if 2<deep - 1 then 2 else deep - 1):=⟨_,rfl⟩
     have hdx2:1<=dx/\dx<=deep - 1:=by rw [hdx]; split <;> omega
     rw [<-hdx]
     clear hdx
     go_wp2_with fail
     have hs5:w.heap.size<=w5.heap.size:=S5.out.1.2.1.size
     have HI5:=hidden (HIH.out m rfl g (P+1+1000*T'+1) dx w5 (by omega) (by omega) (by omega) (by rw [<-HT'.out]; omega) (by rw [<-HT'.out]; omega) S5.out.1.1)
     rw [<-HT'.out] at HI5
     refine HI5.out.mono ?_
     rintro e w7 ⟨b,vb,kb,db,wo,rfl,ho1,ho6,hzb,hpb,hr9,hg9⟩
     have S7:=hidden (S5.out.call hgw hg9 hr9)
     have HOB:=hidden hpb.held.ones
     have HZB:=hidden hzb
     have HPB:=hidden hpb
     clear hpb hr9 hg9 hzb HI5
     have HTH:Hid ((w7.alloc (.cells o19.toArray 31)).there w7.heap.size 0 (z1J b.nd vb kb db).toArray.size):=(z1X w7 z19 rfl).there
     have hii:(Tryz.prog.info? 31).map (·.size)=some (z1J b.nd vb kb db).toArray.size:=by kernel_rfl
     have H1:Hid ((z1J b.nd vb kb db).toArray.all (·.oneCell')=true):=j1W b.nd vb kb db HOB.out.1 HOB.out.2.1 HOB.out.2.2
     have hwr4:IntKind.i64.wrap (wd+wo)=wd+wo:=by rw [wrap_small] <;> omega
     have hla:(Tryz.prog.info? 31).map (·.size)=some (z1J a.nd va ka da).length:=by kernel_rfl
     by_cases hbig:6<wd+wo
     ·
      skip;have hir:(Tryz.prog.info? 31).map (·.size)=some (z1J a.nd va ka da).toArray.size:=by kernel_rfl
      have H1R:Hid ((z1J a.nd va ka da).toArray.all (·.oneCell')=true):=j1W a.nd va ka da HOA.out.1 HOA.out.2.1 HOA.out.2.2;go_wp2_with (first | ((with_reducible refine wpList_store_mid rfl 31 (.tmp 10) (.tmp 77) rfl w7.heap.size 0 (z1J b.nd vb kb db).toArray ?_ ?_ HTH.out hii H1.out ?_); rfl; rfl; generalize hW9:World.setCells _ _ _ _=W9; have SB:=hidden (StA.keepW S7.out hgw HPB.out hs5 hW9); have HTR:Hid (W9.there w.heap.size 0 (z1J a.nd va ka da).toArray.size):=SB.out.1.1.2.2.there; have HB9:Hid (W9.rangeAt A 0 (z1J a.nd va ka da)):=SB.out.1.2.2.1.range) | ((with_reducible refine wpList_load_mid rfl 31 (.tmp 6) rfl A 0 ?_ (z1J a.nd va ka da) _ HB9.out Tryz.underlying31 ?_ hla ?_); rfl; rfl) | ((with_reducible refine wpList_store_mid rfl 31 (.tmp 4) (.tmp 83) rfl w.heap.size 0 (z1J a.nd va ka da).toArray ?_ ?_ HTR.out hir H1R.out ?_); rfl; rfl; generalize hW8:World.setCells _ _ _ _=W8));have SA9:=hidden SB.out.1;have HF:=hidden (StR.told (P':=P+1000*T) (p:=(Pl.up (m+1) a)) SA9.out.1 hgw SA9.out.2.1.up (by omega) hW8);have HSZ:Hid (Pl.sz (m+1+1) (Pl.up (m+1) a)<=10*T):=(by show _<=_; rw [Pl.up_sz]; have:=HZA.out; omega);refine bodyPost_ret (v:=.tuple #[.agg (z1J a.nd va ka da).toArray,.int .i64 wd]) (q1P (a:=4) (b:=5) (t:=31) (ad:=⟨w.heap.size,0,none⟩) Tryz.results50 (by simp [Act.put]) (by simp [Act.put]) (j1K HF.out.1)) (by simp [Act.put]) ?_;exact ⟨(Pl.up (m+1) a),va,ka,da,wd,rfl,by omega,by omega,HSZ.out,HF.out.2.2.2,HF.out.2.1,HF.out.2.2.1⟩
     ·
      have hbig':wd+wo<=6:=by omega
      go_wp2_with ((with_reducible refine wpList_store_mid rfl 31 (.tmp 10) (.tmp 77) rfl w7.heap.size 0 (z1J b.nd vb kb db).toArray ?_ ?_ HTH.out hii H1.out ?_); rfl; rfl; generalize hW9:World.setCells _ _ _ _=W9);have SB:=hidden (StA.keepW S7.out hgw HPB.out hs5 hW9);generalize w7.heap.size=B at SB ⊢;have SD:=hidden (SB.out.below hgw (below_drewN (Below.refl _ _) 1));clear HTH hii H1 SB hW9 S7 HPB;refine wp_region_held_drew (S:=(fun X:World=>X.rangeAt A 0 (z1J a.nd va ka da)/\X.rangeAt B 0 (z1J b.nd vb kb db))) (by kernel_rfl) ?_ (fun hHeld=> ?_)
      ·
       (try dsimp only); exact ⟨SD.out.1.2.2.1.range,SD.out.2.2.1.range⟩
      refine tk 0 ?_; simp only [ap];refine tk 1 ?_; simp only [ap];refine tk 3 ?_; simp only [ap];refine tk 4 ?_; simp only [ap];refine tl 6 (v:=.agg (z1J a.nd va ka da).toArray) rfl (yieldsIf_load_mid (by rfl) 31 _ rfl A 0 rfl (z1J a.nd va ka da) _ (fun x h=>h.1) Tryz.underlying31 rfl (j2I a.nd va ka da)) ?_;simp only [ap];refine tl 7 (v:=.agg (z1J b.nd vb kb db).toArray) rfl (yieldsIf_load_mid (by rfl) 31 _ rfl B 0 rfl (z1J b.nd vb kb db) _ (fun x h=>h.2) Tryz.underlying31 rfl (j2I b.nd vb kb db)) ?_;simp only [ap];refine tk 10 ?_; simp only [ap];refine tk 11 ?_; simp only [ap];refine tk 12 ?_; simp only [ap];refine wpAnyH_ready (rs:=[2,8]) (by kernel_rfl) (by simp) ?_;refine AllReadyH.cons rfl (fun K hK=> ?_) (AllReadyH.cons rfl (fun K hK=> ?_) AllReadyH.nil)
      ·
       go_simp;(go_at_call 18; refine (z1L g _ wd _ (by omega) (by omega) (by omega) SD.out.1.1.1).mono ?_; rintro e wp ⟨pa,pa0,pa1,rfl,hr9,hg9⟩);have S2:=hidden (SD.out.call hgw hg9 hr9);clear hr9 hg9;refine hK.out _ _ ?_ (fun hHeld=> ?_)
       ·
        (try dsimp only); exact ⟨S2.out.1.2.2.1.range,S2.out.2.2.1.range⟩
       clear hK K;try simp only [ap]
       refine wpAnyH_ready (rs:=[5,8]) (by kernel_rfl) (by simp) ?_;refine AllReadyH.cons rfl (fun K hK=> ?_) (AllReadyH.cons rfl (fun K hK=> ?_) AllReadyH.nil)
       ·
        go_simp;(go_at_call 18; refine (z1L g _ wo _ (by omega) (by omega) (by omega) S2.out.1.1.1).mono ?_; rintro e wq ⟨pb,pb0,pb1,rfl,hr9,hg9⟩);have S6:=hidden (S2.out.call hgw hg9 hr9);clear hr9 hg9;refine hK.out _ _ ?_ (fun hHeld=> ?_)
        ·
         (try dsimp only); exact ⟨S6.out.1.2.2.1.range,S6.out.2.2.1.range⟩
        clear hK K;try simp only [ap]
        refine r1 8 (fun K hK=> ?_);go_simp;have SK:=hidden (S6.out.below hgw (z1B (.cells #[.int .i64 a.nd.k,.int .i64 a.nd.n,.int .i64 a.nd.t.k,.bool a.nd.t.no,.int .i64 a.nd.t.l.k,.int .i64 a.nd.t.l.a,.int .i64 a.nd.t.l.b,.int .i64 a.nd.t.l.n,.int .i64 a.nd.t.r.k,.int .i64 a.nd.t.r.a,.int .i64 a.nd.t.r.b,.int .i64 a.nd.t.r.n,va,.int .i64 a.nd.a,.int .i64 a.nd.b,ka,.int .i64 a.nd.g,.int .i64 a.nd.c,da,.int .i64 b.nd.k,.int .i64 b.nd.n,.int .i64 b.nd.t.k,.bool b.nd.t.no,.int .i64 b.nd.t.l.k,.int .i64 b.nd.t.l.a,.int .i64 b.nd.t.l.b,.int .i64 b.nd.t.l.n,.int .i64 b.nd.t.r.k,.int .i64 b.nd.t.r.a,.int .i64 b.nd.t.r.b,.int .i64 b.nd.t.r.n,vb,.int .i64 b.nd.a,.int .i64 b.nd.b,kb,.int .i64 b.nd.g,.int .i64 b.nd.c,db] 31)));have HK:Hid ((wq.alloc (.cells #[.int .i64 a.nd.k,.int .i64 a.nd.n,.int .i64 a.nd.t.k,.bool a.nd.t.no,.int .i64 a.nd.t.l.k,.int .i64 a.nd.t.l.a,.int .i64 a.nd.t.l.b,.int .i64 a.nd.t.l.n,.int .i64 a.nd.t.r.k,.int .i64 a.nd.t.r.a,.int .i64 a.nd.t.r.b,.int .i64 a.nd.t.r.n,va,.int .i64 a.nd.a,.int .i64 a.nd.b,ka,.int .i64 a.nd.g,.int .i64 a.nd.c,da,.int .i64 b.nd.k,.int .i64 b.nd.n,.int .i64 b.nd.t.k,.bool b.nd.t.no,.int .i64 b.nd.t.l.k,.int .i64 b.nd.t.l.a,.int .i64 b.nd.t.l.b,.int .i64 b.nd.t.l.n,.int .i64 b.nd.t.r.k,.int .i64 b.nd.t.r.a,.int .i64 b.nd.t.r.b,.int .i64 b.nd.t.r.n,vb,.int .i64 b.nd.a,.int .i64 b.nd.b,kb,.int .i64 b.nd.g,.int .i64 b.nd.c,db] 31)).heap[wq.heap.size]? = some (.cells #[.int .i64 a.nd.k,.int .i64 a.nd.n,.int .i64 a.nd.t.k,.bool a.nd.t.no,.int .i64 a.nd.t.l.k,.int .i64 a.nd.t.l.a,.int .i64 a.nd.t.l.b,.int .i64 a.nd.t.l.n,.int .i64 a.nd.t.r.k,.int .i64 a.nd.t.r.a,.int .i64 a.nd.t.r.b,.int .i64 a.nd.t.r.n,va,.int .i64 a.nd.a,.int .i64 a.nd.b,ka,.int .i64 a.nd.g,.int .i64 a.nd.c,da,.int .i64 b.nd.k,.int .i64 b.nd.n,.int .i64 b.nd.t.k,.bool b.nd.t.no,.int .i64 b.nd.t.l.k,.int .i64 b.nd.t.l.a,.int .i64 b.nd.t.l.b,.int .i64 b.nd.t.l.n,.int .i64 b.nd.t.r.k,.int .i64 b.nd.t.r.a,.int .i64 b.nd.t.r.b,.int .i64 b.nd.t.r.n,vb,.int .i64 b.nd.a,.int .i64 b.nd.b,kb,.int .i64 b.nd.g,.int .i64 b.nd.c,db] 31)):=alloc_at _ _;have hrk:w.heap.size<wq.heap.size:=S6.out.1.1.2.2.lt;have HPT:=hidden (SK.out.1.two SK.out.2.1 HK.out hrk (⟨4,0,⟨0,false,⟨0,0,0,0⟩,⟨0,0,0,0⟩⟩,[],pa,pb,[],0,0⟩:Nd) rfl rfl);have HTH:Hid ((wq.alloc (.cells #[.int .i64 a.nd.k,.int .i64 a.nd.n,.int .i64 a.nd.t.k,.bool a.nd.t.no,.int .i64 a.nd.t.l.k,.int .i64 a.nd.t.l.a,.int .i64 a.nd.t.l.b,.int .i64 a.nd.t.l.n,.int .i64 a.nd.t.r.k,.int .i64 a.nd.t.r.a,.int .i64 a.nd.t.r.b,.int .i64 a.nd.t.r.n,va,.int .i64 a.nd.a,.int .i64 a.nd.b,ka,.int .i64 a.nd.g,.int .i64 a.nd.c,da,.int .i64 b.nd.k,.int .i64 b.nd.n,.int .i64 b.nd.t.k,.bool b.nd.t.no,.int .i64 b.nd.t.l.k,.int .i64 b.nd.t.l.a,.int .i64 b.nd.t.l.b,.int .i64 b.nd.t.l.n,.int .i64 b.nd.t.r.k,.int .i64 b.nd.t.r.a,.int .i64 b.nd.t.r.b,.int .i64 b.nd.t.r.n,vb,.int .i64 b.nd.a,.int .i64 b.nd.b,kb,.int .i64 b.nd.g,.int .i64 b.nd.c,db] 31)).there w.heap.size 0 (h19 4 0 (.slice none 0 0) pa pb (.slice none 0 0) 0 0 (.slice (some ⟨wq.heap.size,0,none⟩) 2 2)).toArray.size):=SK.out.1.1.2.2.there;have hii:(Tryz.prog.info? 31).map (·.size)=some (h19 4 0 (.slice none 0 0) pa pb (.slice none 0 0) 0 0 (.slice (some ⟨wq.heap.size,0,none⟩) 2 2)).toArray.size:=by kernel_rfl
        have H1:Hid ((h19 4 0 (.slice none 0 0) pa pb (.slice none 0 0) 0 0 (.slice (some ⟨wq.heap.size,0,none⟩) 2 2)).toArray.all (·.oneCell')=true):=j1W (⟨4,0,⟨0,false,⟨0,0,0,0⟩,⟨0,0,0,0⟩⟩,[],pa,pb,[],0,0⟩:Nd) (.slice none 0 0) (.slice none 0 0) (.slice (some ⟨wq.heap.size,0,none⟩) 2 2) rfl rfl rfl;refine hK.out _ _ ?_ (fun hHeld=> ?_)
        ·
         (try dsimp only); exact ⟨SK.out.1.2.2.1.range,SK.out.2.2.1.range⟩
        clear hK K;try simp only [ap]
        refine tk 9 ?_; simp only [ap];refine r1 13 (fun K hK=> ?_);refine q1I rfl (wp_store_mid 31 (.tmp 4) (.tmp 94) rfl w.heap.size 0 (h19 4 0 (.slice none 0 0) pa pb (.slice none 0 0) 0 0 (.slice (some ⟨wq.heap.size,0,none⟩) 2 2)).toArray (by simp [Act.eval]) (by simp [Act.eval]) HTH.out hii H1.out ?_);generalize hW8:World.setCells _ _ _ _=W8;refine hK.out _ _ ?_ (fun hHeld=> ?_)
        ·
         (try dsimp only); exact ⟨(SK.out.1.2.2.1.past (fun e=>by have:=SK.out.1.2.2.2; omega) hW8).range,(SK.out.2.2.1.past (fun e=>by have:=SK.out.2.2.2; omega) hW8).range⟩
        clear hK K;try simp only [Act.put]
        refine tk 14 ?_; simp only [ap];refine dn ?_;have HF:=hidden (StR.told (P':=P+1000*T) SK.out.1.1 hgw HPT.out (by omega) hW8);have HSZ:Hid (Pl.sz (m+1+1) (Pl.mk (⟨4,0,⟨0,false,⟨0,0,0,0⟩,⟨0,0,0,0⟩⟩,[],pa,pb,[],0,0⟩:Nd) [a,b]:Pl (m+1+1))<=10*T):=(by show _<=_; rw [<-hTT]; exact q4T _ a b rfl rfl HZA.out HZB.out hT1');clear hHeld;go_wp2_with fail;refine bodyPost_ret (v:=.tuple #[.agg (h19 4 0 (.slice none 0 0) pa pb (.slice none 0 0) 0 0 (.slice (some ⟨wq.heap.size,0,none⟩) 2 2)).toArray,.int .i64 (wd+wo)]) (q1P (a:=4) (b:=5) (t:=31) (ad:=⟨w.heap.size,0,none⟩) Tryz.results50 (by simp [Act.put]) (by simp [Act.put]) (j1K HF.out.1)) (by simp [Act.put]) ?_;exact ⟨(Pl.mk (⟨4,0,⟨0,false,⟨0,0,0,0⟩,⟨0,0,0,0⟩⟩,[],pa,pb,[],0,0⟩:Nd) [a,b]:Pl (m+1+1)),(.slice none 0 0),(.slice none 0 0),(.slice (some ⟨wq.heap.size,0,none⟩) 2 2),(wd+wo),rfl,by omega,by omega,HSZ.out,HF.out.2.2.2,HF.out.2.1,HF.out.2.2.1⟩
       ·
        go_simp;have SK:=hidden (S2.out.below hgw (z1B (.cells #[.int .i64 a.nd.k,.int .i64 a.nd.n,.int .i64 a.nd.t.k,.bool a.nd.t.no,.int .i64 a.nd.t.l.k,.int .i64 a.nd.t.l.a,.int .i64 a.nd.t.l.b,.int .i64 a.nd.t.l.n,.int .i64 a.nd.t.r.k,.int .i64 a.nd.t.r.a,.int .i64 a.nd.t.r.b,.int .i64 a.nd.t.r.n,va,.int .i64 a.nd.a,.int .i64 a.nd.b,ka,.int .i64 a.nd.g,.int .i64 a.nd.c,da,.int .i64 b.nd.k,.int .i64 b.nd.n,.int .i64 b.nd.t.k,.bool b.nd.t.no,.int .i64 b.nd.t.l.k,.int .i64 b.nd.t.l.a,.int .i64 b.nd.t.l.b,.int .i64 b.nd.t.l.n,.int .i64 b.nd.t.r.k,.int .i64 b.nd.t.r.a,.int .i64 b.nd.t.r.b,.int .i64 b.nd.t.r.n,vb,.int .i64 b.nd.a,.int .i64 b.nd.b,kb,.int .i64 b.nd.g,.int .i64 b.nd.c,db] 31)));have HK:Hid ((wp.alloc (.cells #[.int .i64 a.nd.k,.int .i64 a.nd.n,.int .i64 a.nd.t.k,.bool a.nd.t.no,.int .i64 a.nd.t.l.k,.int .i64 a.nd.t.l.a,.int .i64 a.nd.t.l.b,.int .i64 a.nd.t.l.n,.int .i64 a.nd.t.r.k,.int .i64 a.nd.t.r.a,.int .i64 a.nd.t.r.b,.int .i64 a.nd.t.r.n,va,.int .i64 a.nd.a,.int .i64 a.nd.b,ka,.int .i64 a.nd.g,.int .i64 a.nd.c,da,.int .i64 b.nd.k,.int .i64 b.nd.n,.int .i64 b.nd.t.k,.bool b.nd.t.no,.int .i64 b.nd.t.l.k,.int .i64 b.nd.t.l.a,.int .i64 b.nd.t.l.b,.int .i64 b.nd.t.l.n,.int .i64 b.nd.t.r.k,.int .i64 b.nd.t.r.a,.int .i64 b.nd.t.r.b,.int .i64 b.nd.t.r.n,vb,.int .i64 b.nd.a,.int .i64 b.nd.b,kb,.int .i64 b.nd.g,.int .i64 b.nd.c,db] 31)).heap[wp.heap.size]? = some (.cells #[.int .i64 a.nd.k,.int .i64 a.nd.n,.int .i64 a.nd.t.k,.bool a.nd.t.no,.int .i64 a.nd.t.l.k,.int .i64 a.nd.t.l.a,.int .i64 a.nd.t.l.b,.int .i64 a.nd.t.l.n,.int .i64 a.nd.t.r.k,.int .i64 a.nd.t.r.a,.int .i64 a.nd.t.r.b,.int .i64 a.nd.t.r.n,va,.int .i64 a.nd.a,.int .i64 a.nd.b,ka,.int .i64 a.nd.g,.int .i64 a.nd.c,da,.int .i64 b.nd.k,.int .i64 b.nd.n,.int .i64 b.nd.t.k,.bool b.nd.t.no,.int .i64 b.nd.t.l.k,.int .i64 b.nd.t.l.a,.int .i64 b.nd.t.l.b,.int .i64 b.nd.t.l.n,.int .i64 b.nd.t.r.k,.int .i64 b.nd.t.r.a,.int .i64 b.nd.t.r.b,.int .i64 b.nd.t.r.n,vb,.int .i64 b.nd.a,.int .i64 b.nd.b,kb,.int .i64 b.nd.g,.int .i64 b.nd.c,db] 31)):=alloc_at _ _;have hrk:w.heap.size<wp.heap.size:=S2.out.1.1.2.2.lt;refine hK.out _ _ ?_ (fun hHeld=> ?_)
        ·
         (try dsimp only); exact ⟨SK.out.1.2.2.1.range,SK.out.2.2.1.range⟩
        clear hK K;try simp only [ap]
        refine r1 5 (fun K hK=> ?_);go_simp;(go_at_call 18; refine (z1L g _ wo _ (by omega) (by omega) (by omega) SK.out.1.1.1).mono ?_; rintro e wq ⟨pb,pb0,pb1,rfl,hr9,hg9⟩);have S6:=hidden (SK.out.call hgw hg9 hr9);have HK:=hidden (kept_blk HK.out hg9 (by omega));clear hr9 hg9;have HPT:=hidden (S6.out.1.two S6.out.2.1 HK.out hrk (⟨4,0,⟨0,false,⟨0,0,0,0⟩,⟨0,0,0,0⟩⟩,[],pa,pb,[],0,0⟩:Nd) rfl rfl);have HTH:Hid (wq.there w.heap.size 0 (h19 4 0 (.slice none 0 0) pa pb (.slice none 0 0) 0 0 (.slice (some ⟨wp.heap.size,0,none⟩) 2 2)).toArray.size):=S6.out.1.1.2.2.there;have hii:(Tryz.prog.info? 31).map (·.size)=some (h19 4 0 (.slice none 0 0) pa pb (.slice none 0 0) 0 0 (.slice (some ⟨wp.heap.size,0,none⟩) 2 2)).toArray.size:=by kernel_rfl
        have H1:Hid ((h19 4 0 (.slice none 0 0) pa pb (.slice none 0 0) 0 0 (.slice (some ⟨wp.heap.size,0,none⟩) 2 2)).toArray.all (·.oneCell')=true):=j1W (⟨4,0,⟨0,false,⟨0,0,0,0⟩,⟨0,0,0,0⟩⟩,[],pa,pb,[],0,0⟩:Nd) (.slice none 0 0) (.slice none 0 0) (.slice (some ⟨wp.heap.size,0,none⟩) 2 2) rfl rfl rfl;refine hK.out _ _ ?_ (fun hHeld=> ?_)
        ·
         (try dsimp only); exact ⟨S6.out.1.2.2.1.range,S6.out.2.2.1.range⟩
        clear hK K;try simp only [ap]
        refine tk 9 ?_; simp only [ap];refine r1 13 (fun K hK=> ?_);refine q1I rfl (wp_store_mid 31 (.tmp 4) (.tmp 94) rfl w.heap.size 0 (h19 4 0 (.slice none 0 0) pa pb (.slice none 0 0) 0 0 (.slice (some ⟨wp.heap.size,0,none⟩) 2 2)).toArray (by simp [Act.eval]) (by simp [Act.eval]) HTH.out hii H1.out ?_);generalize hW8:World.setCells _ _ _ _=W8;refine hK.out _ _ ?_ (fun hHeld=> ?_)
        ·
         (try dsimp only); exact ⟨(S6.out.1.2.2.1.past (fun e=>by have:=S6.out.1.2.2.2; omega) hW8).range,(S6.out.2.2.1.past (fun e=>by have:=S6.out.2.2.2; omega) hW8).range⟩
        clear hK K;try simp only [Act.put]
        refine tk 14 ?_; simp only [ap];refine dn ?_;have HF:=hidden (StR.told (P':=P+1000*T) S6.out.1.1 hgw HPT.out (by omega) hW8);have HSZ:Hid (Pl.sz (m+1+1) (Pl.mk (⟨4,0,⟨0,false,⟨0,0,0,0⟩,⟨0,0,0,0⟩⟩,[],pa,pb,[],0,0⟩:Nd) [a,b]:Pl (m+1+1))<=10*T):=(by show _<=_; rw [<-hTT]; exact q4T _ a b rfl rfl HZA.out HZB.out hT1');clear hHeld;go_wp2_with fail;refine bodyPost_ret (v:=.tuple #[.agg (h19 4 0 (.slice none 0 0) pa pb (.slice none 0 0) 0 0 (.slice (some ⟨wp.heap.size,0,none⟩) 2 2)).toArray,.int .i64 (wd+wo)]) (q1P (a:=4) (b:=5) (t:=31) (ad:=⟨w.heap.size,0,none⟩) Tryz.results50 (by simp [Act.put]) (by simp [Act.put]) (j1K HF.out.1)) (by simp [Act.put]) ?_;exact ⟨(Pl.mk (⟨4,0,⟨0,false,⟨0,0,0,0⟩,⟨0,0,0,0⟩⟩,[],pa,pb,[],0,0⟩:Nd) [a,b]:Pl (m+1+1)),(.slice none 0 0),(.slice none 0 0),(.slice (some ⟨wp.heap.size,0,none⟩) 2 2),(wd+wo),rfl,by omega,by omega,HSZ.out,HF.out.2.2.2,HF.out.2.1,HF.out.2.2.1⟩
      ·
       go_simp;have SK:=hidden (SD.out.below hgw (z1B (.cells #[.int .i64 a.nd.k,.int .i64 a.nd.n,.int .i64 a.nd.t.k,.bool a.nd.t.no,.int .i64 a.nd.t.l.k,.int .i64 a.nd.t.l.a,.int .i64 a.nd.t.l.b,.int .i64 a.nd.t.l.n,.int .i64 a.nd.t.r.k,.int .i64 a.nd.t.r.a,.int .i64 a.nd.t.r.b,.int .i64 a.nd.t.r.n,va,.int .i64 a.nd.a,.int .i64 a.nd.b,ka,.int .i64 a.nd.g,.int .i64 a.nd.c,da,.int .i64 b.nd.k,.int .i64 b.nd.n,.int .i64 b.nd.t.k,.bool b.nd.t.no,.int .i64 b.nd.t.l.k,.int .i64 b.nd.t.l.a,.int .i64 b.nd.t.l.b,.int .i64 b.nd.t.l.n,.int .i64 b.nd.t.r.k,.int .i64 b.nd.t.r.a,.int .i64 b.nd.t.r.b,.int .i64 b.nd.t.r.n,vb,.int .i64 b.nd.a,.int .i64 b.nd.b,kb,.int .i64 b.nd.g,.int .i64 b.nd.c,db] 31)));have HK:Hid (((W9.drewN 1).alloc (.cells #[.int .i64 a.nd.k,.int .i64 a.nd.n,.int .i64 a.nd.t.k,.bool a.nd.t.no,.int .i64 a.nd.t.l.k,.int .i64 a.nd.t.l.a,.int .i64 a.nd.t.l.b,.int .i64 a.nd.t.l.n,.int .i64 a.nd.t.r.k,.int .i64 a.nd.t.r.a,.int .i64 a.nd.t.r.b,.int .i64 a.nd.t.r.n,va,.int .i64 a.nd.a,.int .i64 a.nd.b,ka,.int .i64 a.nd.g,.int .i64 a.nd.c,da,.int .i64 b.nd.k,.int .i64 b.nd.n,.int .i64 b.nd.t.k,.bool b.nd.t.no,.int .i64 b.nd.t.l.k,.int .i64 b.nd.t.l.a,.int .i64 b.nd.t.l.b,.int .i64 b.nd.t.l.n,.int .i64 b.nd.t.r.k,.int .i64 b.nd.t.r.a,.int .i64 b.nd.t.r.b,.int .i64 b.nd.t.r.n,vb,.int .i64 b.nd.a,.int .i64 b.nd.b,kb,.int .i64 b.nd.g,.int .i64 b.nd.c,db] 31)).heap[W9.heap.size]? = some (.cells #[.int .i64 a.nd.k,.int .i64 a.nd.n,.int .i64 a.nd.t.k,.bool a.nd.t.no,.int .i64 a.nd.t.l.k,.int .i64 a.nd.t.l.a,.int .i64 a.nd.t.l.b,.int .i64 a.nd.t.l.n,.int .i64 a.nd.t.r.k,.int .i64 a.nd.t.r.a,.int .i64 a.nd.t.r.b,.int .i64 a.nd.t.r.n,va,.int .i64 a.nd.a,.int .i64 a.nd.b,ka,.int .i64 a.nd.g,.int .i64 a.nd.c,da,.int .i64 b.nd.k,.int .i64 b.nd.n,.int .i64 b.nd.t.k,.bool b.nd.t.no,.int .i64 b.nd.t.l.k,.int .i64 b.nd.t.l.a,.int .i64 b.nd.t.l.b,.int .i64 b.nd.t.l.n,.int .i64 b.nd.t.r.k,.int .i64 b.nd.t.r.a,.int .i64 b.nd.t.r.b,.int .i64 b.nd.t.r.n,vb,.int .i64 b.nd.a,.int .i64 b.nd.b,kb,.int .i64 b.nd.g,.int .i64 b.nd.c,db] 31)):=alloc_at _ _;have hrk:w.heap.size<W9.heap.size:=SD.out.1.1.2.2.lt;refine hK.out _ _ ?_ (fun hHeld=> ?_)
       ·
        (try dsimp only); exact ⟨SK.out.1.2.2.1.range,SK.out.2.2.1.range⟩
       clear hK K;try simp only [ap]
       refine r1 2 (fun K hK=> ?_);go_simp;(go_at_call 18; refine (z1L g _ wd _ (by omega) (by omega) (by omega) SK.out.1.1.1).mono ?_; rintro e wp ⟨pa,pa0,pa1,rfl,hr9,hg9⟩);have S2:=hidden (SK.out.call hgw hg9 hr9);have HK:=hidden (kept_blk HK.out hg9 (by omega));clear hr9 hg9;refine hK.out _ _ ?_ (fun hHeld=> ?_)
       ·
        (try dsimp only); exact ⟨S2.out.1.2.2.1.range,S2.out.2.2.1.range⟩
       clear hK K;try simp only [ap]
       refine r1 5 (fun K hK=> ?_);go_simp;(go_at_call 18; refine (z1L g _ wo _ (by omega) (by omega) (by omega) S2.out.1.1.1).mono ?_; rintro e wq ⟨pb,pb0,pb1,rfl,hr9,hg9⟩);have S6:=hidden (S2.out.call hgw hg9 hr9);have HK:=hidden (kept_blk HK.out hg9 (by omega));clear hr9 hg9;have HPT:=hidden (S6.out.1.two S6.out.2.1 HK.out hrk (⟨4,0,⟨0,false,⟨0,0,0,0⟩,⟨0,0,0,0⟩⟩,[],pa,pb,[],0,0⟩:Nd) rfl rfl);have HTH:Hid (wq.there w.heap.size 0 (h19 4 0 (.slice none 0 0) pa pb (.slice none 0 0) 0 0 (.slice (some ⟨W9.heap.size,0,none⟩) 2 2)).toArray.size):=S6.out.1.1.2.2.there;have hii:(Tryz.prog.info? 31).map (·.size)=some (h19 4 0 (.slice none 0 0) pa pb (.slice none 0 0) 0 0 (.slice (some ⟨W9.heap.size,0,none⟩) 2 2)).toArray.size:=by kernel_rfl
       have H1:Hid ((h19 4 0 (.slice none 0 0) pa pb (.slice none 0 0) 0 0 (.slice (some ⟨W9.heap.size,0,none⟩) 2 2)).toArray.all (·.oneCell')=true):=j1W (⟨4,0,⟨0,false,⟨0,0,0,0⟩,⟨0,0,0,0⟩⟩,[],pa,pb,[],0,0⟩:Nd) (.slice none 0 0) (.slice none 0 0) (.slice (some ⟨W9.heap.size,0,none⟩) 2 2) rfl rfl rfl;refine hK.out _ _ ?_ (fun hHeld=> ?_)
       ·
        (try dsimp only); exact ⟨S6.out.1.2.2.1.range,S6.out.2.2.1.range⟩
       clear hK K;try simp only [ap]
       refine tk 9 ?_; simp only [ap];refine r1 13 (fun K hK=> ?_);refine q1I rfl (wp_store_mid 31 (.tmp 4) (.tmp 94) rfl w.heap.size 0 (h19 4 0 (.slice none 0 0) pa pb (.slice none 0 0) 0 0 (.slice (some ⟨W9.heap.size,0,none⟩) 2 2)).toArray (by simp [Act.eval]) (by simp [Act.eval]) HTH.out hii H1.out ?_);generalize hW8:World.setCells _ _ _ _=W8;refine hK.out _ _ ?_ (fun hHeld=> ?_)
       ·
        (try dsimp only); exact ⟨(S6.out.1.2.2.1.past (fun e=>by have:=S6.out.1.2.2.2; omega) hW8).range,(S6.out.2.2.1.past (fun e=>by have:=S6.out.2.2.2; omega) hW8).range⟩
       clear hK K;try simp only [Act.put]
       refine tk 14 ?_; simp only [ap];refine dn ?_;have HF:=hidden (StR.told (P':=P+1000*T) S6.out.1.1 hgw HPT.out (by omega) hW8);have HSZ:Hid (Pl.sz (m+1+1) (Pl.mk (⟨4,0,⟨0,false,⟨0,0,0,0⟩,⟨0,0,0,0⟩⟩,[],pa,pb,[],0,0⟩:Nd) [a,b]:Pl (m+1+1))<=10*T):=(by show _<=_; rw [<-hTT]; exact q4T _ a b rfl rfl HZA.out HZB.out hT1');clear hHeld;go_wp2_with fail;refine bodyPost_ret (v:=.tuple #[.agg (h19 4 0 (.slice none 0 0) pa pb (.slice none 0 0) 0 0 (.slice (some ⟨W9.heap.size,0,none⟩) 2 2)).toArray,.int .i64 (wd+wo)]) (q1P (a:=4) (b:=5) (t:=31) (ad:=⟨w.heap.size,0,none⟩) Tryz.results50 (by simp [Act.put]) (by simp [Act.put]) (j1K HF.out.1)) (by simp [Act.put]) ?_;exact ⟨(Pl.mk (⟨4,0,⟨0,false,⟨0,0,0,0⟩,⟨0,0,0,0⟩⟩,[],pa,pb,[],0,0⟩:Nd) [a,b]:Pl (m+1+1)),(.slice none 0 0),(.slice none 0 0),(.slice (some ⟨W9.heap.size,0,none⟩) 2 2),(wd+wo),rfl,by omega,by omega,HSZ.out,HF.out.2.2.2,HF.out.2.1,HF.out.2.2.1⟩
   by_cases hB:q8=5
   ·
    subst hB;go_wp2_with fail;have hs5:w.heap.size<=w5.heap.size:=S5.out.1.2.1.size;have HI5:=hidden (HIH.out m rfl g (P+1+1000*T'+1) (deep - 1) w5 (by omega) (by omega) (by omega) (by rw [<-HT'.out]; omega) (by rw [<-HT'.out]; omega) S5.out.1.1);rw [<-HT'.out] at HI5;refine HI5.out.mono ?_;rintro e w7 ⟨b,vb,kb,db,wo,rfl,ho1,ho6,hzb,hpb,hr9,hg9⟩;have S7:=hidden (S5.out.call hgw hg9 hr9);have HOB:=hidden hpb.held.ones;have HZB:=hidden hzb;have HPB:=hidden hpb;clear hpb hr9 hg9 hzb HI5;have HTH:Hid ((w7.alloc (.cells o19.toArray 31)).there w7.heap.size 0 (z1J b.nd vb kb db).toArray.size):=(z1X w7 z19 rfl).there;have hii:(Tryz.prog.info? 31).map (·.size)=some (z1J b.nd vb kb db).toArray.size:=by kernel_rfl
    have H1:Hid ((z1J b.nd vb kb db).toArray.all (·.oneCell')=true):=j1W b.nd vb kb db HOB.out.1 HOB.out.2.1 HOB.out.2.2;have hla:(Tryz.prog.info? 31).map (·.size)=some (z1J a.nd va ka da).length:=by kernel_rfl
    have hlb:(Tryz.prog.info? 31).map (·.size)=some (z1J b.nd vb kb db).length:=by kernel_rfl
    by_cases hne:wd=wo
    ·
     subst hne;go_wp2_with (first | ((with_reducible refine wpList_store_mid rfl 31 (.tmp 12) (.tmp 105) rfl w7.heap.size 0 (z1J b.nd vb kb db).toArray ?_ ?_ HTH.out hii H1.out ?_); rfl; rfl; generalize hW9:World.setCells _ _ _ _=W9; have SB:=hidden (StA.keepW S7.out hgw HPB.out hs5 hW9); have HB9:Hid (W9.rangeAt A 0 (z1J a.nd va ka da)):=SB.out.1.2.2.1.range; have HB8:Hid (W9.rangeAt w7.heap.size 0 (z1J b.nd vb kb db)):=SB.out.2.2.1.range; have SK:=hidden (SB.out.below hgw (z1B (.cells #[.int .i64 a.nd.k,.int .i64 a.nd.n,.int .i64 a.nd.t.k,.bool a.nd.t.no,.int .i64 a.nd.t.l.k,.int .i64 a.nd.t.l.a,.int .i64 a.nd.t.l.b,.int .i64 a.nd.t.l.n,.int .i64 a.nd.t.r.k,.int .i64 a.nd.t.r.a,.int .i64 a.nd.t.r.b,.int .i64 a.nd.t.r.n,va,.int .i64 a.nd.a,.int .i64 a.nd.b,ka,.int .i64 a.nd.g,.int .i64 a.nd.c,da,.int .i64 b.nd.k,.int .i64 b.nd.n,.int .i64 b.nd.t.k,.bool b.nd.t.no,.int .i64 b.nd.t.l.k,.int .i64 b.nd.t.l.a,.int .i64 b.nd.t.l.b,.int .i64 b.nd.t.l.n,.int .i64 b.nd.t.r.k,.int .i64 b.nd.t.r.a,.int .i64 b.nd.t.r.b,.int .i64 b.nd.t.r.n,vb,.int .i64 b.nd.a,.int .i64 b.nd.b,kb,.int .i64 b.nd.g,.int .i64 b.nd.c,db] 31))); have HTR:Hid ((W9.alloc (.cells #[.int .i64 a.nd.k,.int .i64 a.nd.n,.int .i64 a.nd.t.k,.bool a.nd.t.no,.int .i64 a.nd.t.l.k,.int .i64 a.nd.t.l.a,.int .i64 a.nd.t.l.b,.int .i64 a.nd.t.l.n,.int .i64 a.nd.t.r.k,.int .i64 a.nd.t.r.a,.int .i64 a.nd.t.r.b,.int .i64 a.nd.t.r.n,va,.int .i64 a.nd.a,.int .i64 a.nd.b,ka,.int .i64 a.nd.g,.int .i64 a.nd.c,da,.int .i64 b.nd.k,.int .i64 b.nd.n,.int .i64 b.nd.t.k,.bool b.nd.t.no,.int .i64 b.nd.t.l.k,.int .i64 b.nd.t.l.a,.int .i64 b.nd.t.l.b,.int .i64 b.nd.t.l.n,.int .i64 b.nd.t.r.k,.int .i64 b.nd.t.r.a,.int .i64 b.nd.t.r.b,.int .i64 b.nd.t.r.n,vb,.int .i64 b.nd.a,.int .i64 b.nd.b,kb,.int .i64 b.nd.g,.int .i64 b.nd.c,db] 31)).there w.heap.size 0 (h19 5 0 (.slice none 0 0) 0 0 (.slice none 0 0) 0 0 (.slice (some ⟨W9.heap.size,0,none⟩) 2 2)).toArray.size):=SK.out.1.1.2.2.there; have H1R:Hid ((h19 5 0 (.slice none 0 0) 0 0 (.slice none 0 0) 0 0 (.slice (some ⟨W9.heap.size,0,none⟩) 2 2)).toArray.all (·.oneCell')=true):=j1W (⟨5,0,⟨0,false,⟨0,0,0,0⟩,⟨0,0,0,0⟩⟩,[],0,0,[],0,0⟩:Nd) (.slice none 0 0) (.slice none 0 0) (.slice (some ⟨W9.heap.size,0,none⟩) 2 2) rfl rfl rfl; (have hir:(Tryz.prog.info? 31).map (·.size)=some (h19 5 0 (.slice none 0 0) 0 0 (.slice none 0 0) 0 0 (.slice (some ⟨W9.heap.size,0,none⟩) 2 2)).toArray.size:=by kernel_rfl)) | ((with_reducible refine wpList_load_mid rfl 31 (.tmp 6) rfl A 0 ?_ (z1J a.nd va ka da) _ HB9.out Tryz.underlying31 ?_ hla ?_); rfl; rfl) | ((with_reducible refine wpList_load_mid rfl 31 (.tmp 12) rfl w7.heap.size 0 ?_ (z1J b.nd vb kb db) _ HB8.out Tryz.underlying31 ?_ hlb ?_); rfl; rfl) | ((with_reducible refine wpList_store_mid rfl 31 (.tmp 4) (.tmp 119) rfl w.heap.size 0 (h19 5 0 (.slice none 0 0) 0 0 (.slice none 0 0) 0 0 (.slice (some ⟨W9.heap.size,0,none⟩) 2 2)).toArray ?_ ?_ HTR.out hir H1R.out ?_); rfl; rfl; generalize hW8:World.setCells _ _ _ _=W8));have HPT:=hidden (SK.out.1.two SK.out.2.1 (alloc_at W9 (.cells #[.int .i64 a.nd.k,.int .i64 a.nd.n,.int .i64 a.nd.t.k,.bool a.nd.t.no,.int .i64 a.nd.t.l.k,.int .i64 a.nd.t.l.a,.int .i64 a.nd.t.l.b,.int .i64 a.nd.t.l.n,.int .i64 a.nd.t.r.k,.int .i64 a.nd.t.r.a,.int .i64 a.nd.t.r.b,.int .i64 a.nd.t.r.n,va,.int .i64 a.nd.a,.int .i64 a.nd.b,ka,.int .i64 a.nd.g,.int .i64 a.nd.c,da,.int .i64 b.nd.k,.int .i64 b.nd.n,.int .i64 b.nd.t.k,.bool b.nd.t.no,.int .i64 b.nd.t.l.k,.int .i64 b.nd.t.l.a,.int .i64 b.nd.t.l.b,.int .i64 b.nd.t.l.n,.int .i64 b.nd.t.r.k,.int .i64 b.nd.t.r.a,.int .i64 b.nd.t.r.b,.int .i64 b.nd.t.r.n,vb,.int .i64 b.nd.a,.int .i64 b.nd.b,kb,.int .i64 b.nd.g,.int .i64 b.nd.c,db] 31)) SB.out.1.1.2.2.lt (⟨5,0,⟨0,false,⟨0,0,0,0⟩,⟨0,0,0,0⟩⟩,[],0,0,[],0,0⟩:Nd) rfl rfl);have HF:=hidden (StR.told (P':=P+1000*T) SK.out.1.1 hgw HPT.out (by omega) hW8);have HSZ:Hid (Pl.sz (m+1+1) (Pl.mk (⟨5,0,⟨0,false,⟨0,0,0,0⟩,⟨0,0,0,0⟩⟩,[],0,0,[],0,0⟩:Nd) [a,b]:Pl (m+1+1))<=10*T):=(by show _<=_; rw [<-hTT]; exact q4T _ a b rfl rfl HZA.out HZB.out hT1');refine bodyPost_ret (v:=.tuple #[.agg (h19 5 0 (.slice none 0 0) 0 0 (.slice none 0 0) 0 0 (.slice (some ⟨W9.heap.size,0,none⟩) 2 2)).toArray,.int .i64 wd]) (q1P (a:=4) (b:=5) (t:=31) (ad:=⟨w.heap.size,0,none⟩) Tryz.results50 (by simp [Act.put]) (by simp [Act.put]) (j1K HF.out.1)) (by simp [Act.put]) ?_;exact ⟨(Pl.mk (⟨5,0,⟨0,false,⟨0,0,0,0⟩,⟨0,0,0,0⟩⟩,[],0,0,[],0,0⟩:Nd) [a,b]:Pl (m+1+1)),(.slice none 0 0),(.slice none 0 0),(.slice (some ⟨W9.heap.size,0,none⟩) 2 2),wd,rfl,by omega,by omega,HSZ.out,HF.out.2.2.2,HF.out.2.1,HF.out.2.2.1⟩
    ·
     have hneB:(wd != wo)=true:=by simpa using hne
     go_wp2_with ((with_reducible refine wpList_store_mid rfl 31 (.tmp 12) (.tmp 105) rfl w7.heap.size 0 (z1J b.nd vb kb db).toArray ?_ ?_ HTH.out hii H1.out ?_); rfl; rfl; generalize hW9:World.setCells _ _ _ _=W9);have SB:=hidden (StA.keepW S7.out hgw HPB.out hs5 hW9);generalize w7.heap.size=B at SB ⊢;have SD:=hidden (SB.out.below hgw (below_drewN (Below.refl _ _) 1));clear HTH hii H1 SB hW9 S7 HPB;refine wp_region_held_drew (S:=(fun X:World=>X.rangeAt A 0 (z1J a.nd va ka da)/\X.rangeAt B 0 (z1J b.nd vb kb db))) (by kernel_rfl) ?_ (fun hHeld=> ?_)
     ·
      (try dsimp only); exact ⟨SD.out.1.2.2.1.range,SD.out.2.2.1.range⟩
     refine tl 0 (v:=.agg (z1J a.nd va ka da).toArray) rfl (yieldsIf_load_mid (by rfl) 31 _ rfl A 0 rfl (z1J a.nd va ka da) _ (fun x h=>h.1) Tryz.underlying31 rfl (j2I a.nd va ka da)) ?_;simp only [ap];refine tl 1 (v:=.agg (z1J a.nd va ka da).toArray) rfl (yieldsIf_load_mid (by rfl) 31 _ rfl A 0 rfl (z1J a.nd va ka da) _ (fun x h=>h.1) Tryz.underlying31 rfl (j2I a.nd va ka da)) ?_;simp only [ap];refine tk 5 ?_; simp only [ap];refine r1 2 (fun K hK=> ?_);go_simp;(go_at_call 95; refine (HCP.out m a va ka da _ SD.out.1.2.1.held.now (by have:=HZA.out; omega)).mono ?_; rintro e wy ⟨ya,yk,yd,rfl,hpy,hby⟩);have SY:=hidden (SD.out.below hgw hby);have HPY:=hidden (hpy.lower (lo':=w.heap.size+1) SD.out.1.1.2.2.lt);clear hpy hby
     refine hK.out _ _ ?_ (fun hHeld=> ?_)
     ·
      (try dsimp only); exact ⟨SY.out.1.2.2.1.range,SY.out.2.2.1.range⟩
     clear hK K;try simp only [ap]
     refine r1 3 (fun K hK=> ?_);go_simp;have SK:=hidden (SY.out.below hgw (z1B (.cells #[.int .i64 a.nd.k,.int .i64 a.nd.n,.int .i64 a.nd.t.k,.bool a.nd.t.no,.int .i64 a.nd.t.l.k,.int .i64 a.nd.t.l.a,.int .i64 a.nd.t.l.b,.int .i64 a.nd.t.l.n,.int .i64 a.nd.t.r.k,.int .i64 a.nd.t.r.a,.int .i64 a.nd.t.r.b,.int .i64 a.nd.t.r.n,va,.int .i64 a.nd.a,.int .i64 a.nd.b,ka,.int .i64 a.nd.g,.int .i64 a.nd.c,da,.int .i64 a.nd.k,.int .i64 a.nd.n,.int .i64 a.nd.t.k,.bool a.nd.t.no,.int .i64 a.nd.t.l.k,.int .i64 a.nd.t.l.a,.int .i64 a.nd.t.l.b,.int .i64 a.nd.t.l.n,.int .i64 a.nd.t.r.k,.int .i64 a.nd.t.r.a,.int .i64 a.nd.t.r.b,.int .i64 a.nd.t.r.n,ya,.int .i64 a.nd.a,.int .i64 a.nd.b,yk,.int .i64 a.nd.g,.int .i64 a.nd.c,yd] 31)));have HPK:=hidden (HPY.out.step (World.grownBy_alloc wy (.cells #[.int .i64 a.nd.k,.int .i64 a.nd.n,.int .i64 a.nd.t.k,.bool a.nd.t.no,.int .i64 a.nd.t.l.k,.int .i64 a.nd.t.l.a,.int .i64 a.nd.t.l.b,.int .i64 a.nd.t.l.n,.int .i64 a.nd.t.r.k,.int .i64 a.nd.t.r.a,.int .i64 a.nd.t.r.b,.int .i64 a.nd.t.r.n,va,.int .i64 a.nd.a,.int .i64 a.nd.b,ka,.int .i64 a.nd.g,.int .i64 a.nd.c,da,.int .i64 a.nd.k,.int .i64 a.nd.n,.int .i64 a.nd.t.k,.bool a.nd.t.no,.int .i64 a.nd.t.l.k,.int .i64 a.nd.t.l.a,.int .i64 a.nd.t.l.b,.int .i64 a.nd.t.l.n,.int .i64 a.nd.t.r.k,.int .i64 a.nd.t.r.a,.int .i64 a.nd.t.r.b,.int .i64 a.nd.t.r.n,ya,.int .i64 a.nd.a,.int .i64 a.nd.b,yk,.int .i64 a.nd.g,.int .i64 a.nd.c,yd] 31) none) (fun k e=>by cases e));have HPT:=hidden (SK.out.1.two HPK.out (alloc_at wy (.cells #[.int .i64 a.nd.k,.int .i64 a.nd.n,.int .i64 a.nd.t.k,.bool a.nd.t.no,.int .i64 a.nd.t.l.k,.int .i64 a.nd.t.l.a,.int .i64 a.nd.t.l.b,.int .i64 a.nd.t.l.n,.int .i64 a.nd.t.r.k,.int .i64 a.nd.t.r.a,.int .i64 a.nd.t.r.b,.int .i64 a.nd.t.r.n,va,.int .i64 a.nd.a,.int .i64 a.nd.b,ka,.int .i64 a.nd.g,.int .i64 a.nd.c,da,.int .i64 a.nd.k,.int .i64 a.nd.n,.int .i64 a.nd.t.k,.bool a.nd.t.no,.int .i64 a.nd.t.l.k,.int .i64 a.nd.t.l.a,.int .i64 a.nd.t.l.b,.int .i64 a.nd.t.l.n,.int .i64 a.nd.t.r.k,.int .i64 a.nd.t.r.a,.int .i64 a.nd.t.r.b,.int .i64 a.nd.t.r.n,ya,.int .i64 a.nd.a,.int .i64 a.nd.b,yk,.int .i64 a.nd.g,.int .i64 a.nd.c,yd] 31)) SY.out.1.1.2.2.lt (⟨5,0,⟨0,false,⟨0,0,0,0⟩,⟨0,0,0,0⟩⟩,[],0,0,[],0,0⟩:Nd) rfl rfl);have HTH:Hid ((wy.alloc (.cells #[.int .i64 a.nd.k,.int .i64 a.nd.n,.int .i64 a.nd.t.k,.bool a.nd.t.no,.int .i64 a.nd.t.l.k,.int .i64 a.nd.t.l.a,.int .i64 a.nd.t.l.b,.int .i64 a.nd.t.l.n,.int .i64 a.nd.t.r.k,.int .i64 a.nd.t.r.a,.int .i64 a.nd.t.r.b,.int .i64 a.nd.t.r.n,va,.int .i64 a.nd.a,.int .i64 a.nd.b,ka,.int .i64 a.nd.g,.int .i64 a.nd.c,da,.int .i64 a.nd.k,.int .i64 a.nd.n,.int .i64 a.nd.t.k,.bool a.nd.t.no,.int .i64 a.nd.t.l.k,.int .i64 a.nd.t.l.a,.int .i64 a.nd.t.l.b,.int .i64 a.nd.t.l.n,.int .i64 a.nd.t.r.k,.int .i64 a.nd.t.r.a,.int .i64 a.nd.t.r.b,.int .i64 a.nd.t.r.n,ya,.int .i64 a.nd.a,.int .i64 a.nd.b,yk,.int .i64 a.nd.g,.int .i64 a.nd.c,yd] 31)).there w.heap.size 0 (h19 5 0 (.slice none 0 0) 0 0 (.slice none 0 0) 0 0 (.slice (some ⟨wy.heap.size,0,none⟩) 2 2)).toArray.size):=SK.out.1.1.2.2.there;have hii:(Tryz.prog.info? 31).map (·.size)=some (h19 5 0 (.slice none 0 0) 0 0 (.slice none 0 0) 0 0 (.slice (some ⟨wy.heap.size,0,none⟩) 2 2)).toArray.size:=by kernel_rfl
     have H1:Hid ((h19 5 0 (.slice none 0 0) 0 0 (.slice none 0 0) 0 0 (.slice (some ⟨wy.heap.size,0,none⟩) 2 2)).toArray.all (·.oneCell')=true):=j1W (⟨5,0,⟨0,false,⟨0,0,0,0⟩,⟨0,0,0,0⟩⟩,[],0,0,[],0,0⟩:Nd) (.slice none 0 0) (.slice none 0 0) (.slice (some ⟨wy.heap.size,0,none⟩) 2 2) rfl rfl rfl;refine hK.out _ _ ?_ (fun hHeld=> ?_)
     ·
      (try dsimp only); exact ⟨SK.out.1.2.2.1.range,SK.out.2.2.1.range⟩
     clear hK K;try simp only [ap]
     refine tk 4 ?_; simp only [ap];refine r1 6 (fun K hK=> ?_);refine q1I rfl (wp_store_mid 31 (.tmp 4) (.tmp 114) rfl w.heap.size 0 (h19 5 0 (.slice none 0 0) 0 0 (.slice none 0 0) 0 0 (.slice (some ⟨wy.heap.size,0,none⟩) 2 2)).toArray (by simp [Act.eval]) (by simp [Act.eval]) HTH.out hii H1.out ?_);generalize hW8:World.setCells _ _ _ _=W8;refine hK.out _ _ ?_ (fun hHeld=> ?_)
     ·
      (try dsimp only); exact ⟨(SK.out.1.2.2.1.past (fun e=>by have:=SK.out.1.2.2.2; omega) hW8).range,(SK.out.2.2.1.past (fun e=>by have:=SK.out.2.2.2; omega) hW8).range⟩
     clear hK K;try simp only [Act.put]
     refine tk 7 ?_; simp only [ap];refine dn ?_;have HF:=hidden (StR.told (P':=P+1000*T) SK.out.1.1 hgw HPT.out (by omega) hW8);have HSZ:Hid (Pl.sz (m+1+1) (Pl.mk (⟨5,0,⟨0,false,⟨0,0,0,0⟩,⟨0,0,0,0⟩⟩,[],0,0,[],0,0⟩:Nd) [a,a]:Pl (m+1+1))<=10*T):=(by show _<=_; rw [<-hTT]; exact q4T _ a a rfl rfl HZA.out HZA.out hT1');clear hHeld;go_wp2_with fail;refine bodyPost_ret (v:=.tuple #[.agg (h19 5 0 (.slice none 0 0) 0 0 (.slice none 0 0) 0 0 (.slice (some ⟨wy.heap.size,0,none⟩) 2 2)).toArray,.int .i64 wd]) (q1P (a:=4) (b:=5) (t:=31) (ad:=⟨w.heap.size,0,none⟩) Tryz.results50 (by simp [Act.put]) (by simp [Act.put]) (j1K HF.out.1)) (by simp [Act.put]) ?_;exact ⟨(Pl.mk (⟨5,0,⟨0,false,⟨0,0,0,0⟩,⟨0,0,0,0⟩⟩,[],0,0,[],0,0⟩:Nd) [a,a]:Pl (m+1+1)),(.slice none 0 0),(.slice none 0 0),(.slice (some ⟨wy.heap.size,0,none⟩) 2 2),wd,rfl,by omega,by omega,HSZ.out,HF.out.2.2.2,HF.out.2.1,HF.out.2.2.1⟩
   obtain rfl:q8=7:=by omega
   have SD:=hidden (S5.out.below hgw (below_drewN (Below.refl _ _) 1));have h5s:w.heap.size<w5.heap.size:=S5.out.1.2.2.lt;have hA5:=S5.out.2.2.2;have HX:Hid (AgB (w.heap.size+1) w5.heap.size w5 (w5.drewN 1)):=AgB.of_below (below_drewN (Below.refl _ _) 1) (Nat.le_refl _);have HX0:=hidden HX.out;go_wp2_with fail;go_cut [14] (fun pv wx=> ∃ (HI Pb Kb:Nat) (ga gc:Int),pv = .pointer (some ⟨Pb,0,none⟩)/\Hid (StP w wx g (P+1+1000*T'+1+1+1) HI Pb (m+1) (Pl.mk (⟨7,0,⟨0,false,⟨0,0,0,0⟩,⟨0,0,0,0⟩⟩,[],0,0,[],ga,gc⟩:Nd) [a]) (.slice none 0 0) (.slice none 0 0) (.slice (some ⟨Kb,0,none⟩) 1 1)))
   case first=>
    refine wp_region_held_drew (S:=(fun X:World=>X.rangeAt A 0 (z1J a.nd va ka da))) (by kernel_rfl) ?_ (fun hHeld=> ?_)
    ·
     (try dsimp only); exact SD.out.2.2.1.range
    refine tk 0 ?_; simp only [ap];refine tk 2 ?_; simp only [ap];refine tk 3 ?_; simp only [ap];refine tl 5 (v:=.agg (z1J a.nd va ka da).toArray) rfl (yieldsIf_load_mid (by rfl) 31 _ rfl A 0 rfl (z1J a.nd va ka da) _ (fun x h=>h) Tryz.underlying31 rfl (j2I a.nd va ka da)) ?_;simp only [ap];refine wpAnyH_ready (rs:=[1,6,8]) (by kernel_rfl) (by simp) ?_;refine AllReadyH.cons rfl (fun K hK=> ?_) (AllReadyH.cons rfl (fun K hK=> ?_) (AllReadyH.cons rfl (fun K hK=> ?_) AllReadyH.nil))
    ·
     go_simp;(go_at_call 18; refine (z1L g _ 4 _ (by omega) (by omega) (by omega) SD.out.1.1).mono ?_; rintro e wx1 ⟨ga,ga0,ga1,rfl,hr9,hg9⟩);have S1:=hidden (SD.out.call hgw hg9 hr9);have HX:=hidden (HX.out.callG hg9 (by omega));clear hr9 hg9;refine hK.out _ _ ?_ (fun hHeld=> ?_)
     ·
      (try dsimp only); exact S1.out.2.2.1.range
     clear hK K;try simp only [ap]
     refine wpAnyH_ready (rs:=[4,6,8]) (by kernel_rfl) (by simp) ?_;refine AllReadyH.cons rfl (fun K hK=> ?_) (AllReadyH.cons rfl (fun K hK=> ?_) (AllReadyH.cons rfl (fun K hK=> ?_) AllReadyH.nil))
     ·
      go_simp;(go_at_call 18; refine (z1L g _ wd _ (by omega) (by omega) (by omega) S1.out.1.1).mono ?_; rintro e wx2 ⟨gc,gc0,gc1,rfl,hr9,hg9⟩);have S2:=hidden (S1.out.call hgw hg9 hr9);have HX:=hidden (HX.out.callG hg9 (by omega));clear hr9 hg9;refine hK.out _ _ ?_ (fun hHeld=> ?_)
      ·
       (try dsimp only); exact S2.out.2.2.1.range
      clear hK K;try simp only [ap]
      refine wpAnyH_ready (rs:=[6,8]) (by kernel_rfl) (by simp) ?_;refine AllReadyH.cons rfl (fun K hK=> ?_) (AllReadyH.cons rfl (fun K hK=> ?_) AllReadyH.nil)
      ·
       have HX8:=hidden HX.out;go_simp;have SK:=hidden (S2.out.below hgw (z1B (.cells (z1J a.nd va ka da).toArray 31)));have HX:=hidden (HX.out.allocG (.cells (z1J a.nd va ka da).toArray 31));have hHK0:w5.heap.size<=wx2.heap.size:=(by have h:=HX8.out.1; exact h);have HK:Hid (x1P (wx2.alloc (.cells (z1J a.nd va ka da).toArray 31)) wx2.heap.size (z1J a.nd va ka da)):=z1X wx2 (z1J a.nd va ka da) rfl;refine hK.out _ _ ?_ (fun hHeld=> ?_)
       ·
        (try dsimp only); exact SK.out.2.2.1.range
       clear hK K;try simp only [ap]
       refine tk 7 ?_; simp only [ap];refine r1 8 (fun K hK=> ?_);have HX8:=hidden HX.out;have HK8:=hidden HK.out;go_simp;have SP:=hidden (SK.out.below hgw (z1B (.cells o19.toArray 31)));have HX:=hidden (HX.out.allocG (.cells o19.toArray 31));have HK:=hidden (HK.out.allocG (.cells o19.toArray 31));have hHB0:w5.heap.size<=wx2.heap.size+1:=(by have h:=HX8.out.1; simp only [q1C] at h; exact h);have HB:Hid (x1P ((wx2.alloc (.cells (z1J a.nd va ka da).toArray 31)).alloc (.cells o19.toArray 31)) (wx2.heap.size+1) z19):=(by have h:=z1X (wx2.alloc (.cells (z1J a.nd va ka da).toArray 31)) z19 rfl; rw [q1C] at h; exact h);have hne:wx2.heap.size≠(wx2.heap.size+1):=(by have h:=HK8.out.lt; simp only [q1C] at h; intro e; omega);have HTH:Hid (((wx2.alloc (.cells (z1J a.nd va ka da).toArray 31)).alloc (.cells o19.toArray 31)).there (wx2.heap.size+1) 0 (h19 7 0 (.slice none 0 0) 0 0 (.slice none 0 0) ga gc (.slice (some ⟨wx2.heap.size,0,none⟩) 1 1)).toArray.size):=HB.out.there;have hii:(Tryz.prog.info? 31).map (·.size)=some (h19 7 0 (.slice none 0 0) 0 0 (.slice none 0 0) ga gc (.slice (some ⟨wx2.heap.size,0,none⟩) 1 1)).toArray.size:=by kernel_rfl
       have H1:Hid ((h19 7 0 (.slice none 0 0) 0 0 (.slice none 0 0) ga gc (.slice (some ⟨wx2.heap.size,0,none⟩) 1 1)).toArray.all (·.oneCell')=true):=j1W (⟨7,0,⟨0,false,⟨0,0,0,0⟩,⟨0,0,0,0⟩⟩,[],0,0,[],ga,gc⟩:Nd) (.slice none 0 0) (.slice none 0 0) (.slice (some ⟨wx2.heap.size,0,none⟩) 1 1) rfl rfl rfl;refine hK.out _ _ ?_ (fun hHeld=> ?_)
       ·
        (try dsimp only); exact SP.out.2.2.1.range
       clear hK K;try simp only [ap]
       refine r1 9 (fun K hK=> ?_);refine q1I rfl (wp_store_mid 31 (.tmp 14) (.tmp 134) rfl (wx2.heap.size+1) 0 (h19 7 0 (.slice none 0 0) 0 0 (.slice none 0 0) ga gc (.slice (some ⟨wx2.heap.size,0,none⟩) 1 1)).toArray (by simp [Act.eval]) (by simp [Act.eval]) HTH.out hii H1.out ?_);generalize hW9:World.setCells _ _ _ _=W9;refine hK.out _ _ ?_ (fun hHeld=> ?_)
       ·
        (try dsimp only); exact (SP.out.2.2.1.past (fun e=>by have:=S5.out.2.2.1.lt; have:=hHB0; omega) hW9).range
       clear hK K;try simp only [Act.put]
       refine dn ?_;have SV:=hidden (S5.out.part3 hgw SP.out.1 HX.out HK.out HB.out hHK0 hHB0 hne (⟨7,0,⟨0,false,⟨0,0,0,0⟩,⟨0,0,0,0⟩⟩,[],0,0,[],ga,gc⟩:Nd) rfl rfl hW9);clear hHeld;go_wp2_with fail;go_meet
       case rel=>exact ⟨_,_,_,_,_,rfl,SV.out⟩
      ·
       have HX8:=hidden HX.out;go_simp;have SP:=hidden (S2.out.below hgw (z1B (.cells o19.toArray 31)));have HX:=hidden (HX.out.allocG (.cells o19.toArray 31));have hHB0:w5.heap.size<=wx2.heap.size:=(by have h:=HX8.out.1; exact h);have HB:Hid (x1P (wx2.alloc (.cells o19.toArray 31)) wx2.heap.size z19):=z1X wx2 z19 rfl;refine hK.out _ _ ?_ (fun hHeld=> ?_)
       ·
        (try dsimp only); exact SP.out.2.2.1.range
       clear hK K;try simp only [ap]
       refine r1 6 (fun K hK=> ?_);have HX8:=hidden HX.out;have HB8:=hidden HB.out;go_simp;have SK:=hidden (SP.out.below hgw (z1B (.cells (z1J a.nd va ka da).toArray 31)));have HX:=hidden (HX.out.allocG (.cells (z1J a.nd va ka da).toArray 31));have HB:=hidden (HB.out.allocG (.cells (z1J a.nd va ka da).toArray 31));have hHK0:w5.heap.size<=wx2.heap.size+1:=(by have h:=HX8.out.1; simp only [q1C] at h; exact h);have HK:Hid (x1P ((wx2.alloc (.cells o19.toArray 31)).alloc (.cells (z1J a.nd va ka da).toArray 31)) (wx2.heap.size+1) (z1J a.nd va ka da)):=(by have h:=z1X (wx2.alloc (.cells o19.toArray 31)) (z1J a.nd va ka da) rfl; rw [q1C] at h; exact h);have hne:(wx2.heap.size+1)≠wx2.heap.size:=(by have h:=HB8.out.lt; simp only [q1C] at h; intro e; omega);have HTH:Hid (((wx2.alloc (.cells o19.toArray 31)).alloc (.cells (z1J a.nd va ka da).toArray 31)).there wx2.heap.size 0 (h19 7 0 (.slice none 0 0) 0 0 (.slice none 0 0) ga gc (.slice (some ⟨(wx2.heap.size+1),0,none⟩) 1 1)).toArray.size):=HB.out.there;have hii:(Tryz.prog.info? 31).map (·.size)=some (h19 7 0 (.slice none 0 0) 0 0 (.slice none 0 0) ga gc (.slice (some ⟨(wx2.heap.size+1),0,none⟩) 1 1)).toArray.size:=by kernel_rfl
       have H1:Hid ((h19 7 0 (.slice none 0 0) 0 0 (.slice none 0 0) ga gc (.slice (some ⟨(wx2.heap.size+1),0,none⟩) 1 1)).toArray.all (·.oneCell')=true):=j1W (⟨7,0,⟨0,false,⟨0,0,0,0⟩,⟨0,0,0,0⟩⟩,[],0,0,[],ga,gc⟩:Nd) (.slice none 0 0) (.slice none 0 0) (.slice (some ⟨(wx2.heap.size+1),0,none⟩) 1 1) rfl rfl rfl;refine hK.out _ _ ?_ (fun hHeld=> ?_)
       ·
        (try dsimp only); exact SK.out.2.2.1.range
       clear hK K;try simp only [ap]
       refine tk 7 ?_; simp only [ap];refine r1 9 (fun K hK=> ?_);refine q1I rfl (wp_store_mid 31 (.tmp 14) (.tmp 134) rfl wx2.heap.size 0 (h19 7 0 (.slice none 0 0) 0 0 (.slice none 0 0) ga gc (.slice (some ⟨(wx2.heap.size+1),0,none⟩) 1 1)).toArray (by simp [Act.eval]) (by simp [Act.eval]) HTH.out hii H1.out ?_);generalize hW9:World.setCells _ _ _ _=W9;refine hK.out _ _ ?_ (fun hHeld=> ?_)
       ·
        (try dsimp only); exact (SK.out.2.2.1.past (fun e=>by have:=S5.out.2.2.1.lt; have:=hHB0; omega) hW9).range
       clear hK K;try simp only [Act.put]
       refine dn ?_;have SV:=hidden (S5.out.part3 hgw SK.out.1 HX.out HK.out HB.out hHK0 hHB0 hne (⟨7,0,⟨0,false,⟨0,0,0,0⟩,⟨0,0,0,0⟩⟩,[],0,0,[],ga,gc⟩:Nd) rfl rfl hW9);clear hHeld;go_wp2_with fail;go_meet
       case rel=>exact ⟨_,_,_,_,_,rfl,SV.out⟩
     ·
      have HX8:=hidden HX.out;go_simp;have SK:=hidden (S1.out.below hgw (z1B (.cells (z1J a.nd va ka da).toArray 31)));have HX:=hidden (HX.out.allocG (.cells (z1J a.nd va ka da).toArray 31));have hHK0:w5.heap.size<=wx1.heap.size:=(by have h:=HX8.out.1; exact h);have HK:Hid (x1P (wx1.alloc (.cells (z1J a.nd va ka da).toArray 31)) wx1.heap.size (z1J a.nd va ka da)):=z1X wx1 (z1J a.nd va ka da) rfl;refine hK.out _ _ ?_ (fun hHeld=> ?_)
      ·
       (try dsimp only); exact SK.out.2.2.1.range
      clear hK K;try simp only [ap]
      refine wpAnyH_ready (rs:=[4,8]) (by kernel_rfl) (by simp) ?_;refine AllReadyH.cons rfl (fun K hK=> ?_) (AllReadyH.cons rfl (fun K hK=> ?_) AllReadyH.nil)
      ·
       go_simp;(go_at_call 18; refine (z1L g _ wd _ (by omega) (by omega) (by omega) SK.out.1.1).mono ?_; rintro e wx2 ⟨gc,gc0,gc1,rfl,hr9,hg9⟩);have S2:=hidden (SK.out.call hgw hg9 hr9);have HX:=hidden (HX.out.callG hg9 (by omega));have HK:=hidden (HK.out.grown hg9 (fun e=>by simp at e; have:=HX.out.1; have:=HK.out.lt; have:=h5s; have:=hHK0; omega));clear hr9 hg9;refine hK.out _ _ ?_ (fun hHeld=> ?_)
       ·
        (try dsimp only); exact S2.out.2.2.1.range
       clear hK K;try simp only [ap]
       refine tk 7 ?_; simp only [ap];refine r1 8 (fun K hK=> ?_);have HX8:=hidden HX.out;have HK8:=hidden HK.out;go_simp;have SP:=hidden (S2.out.below hgw (z1B (.cells o19.toArray 31)));have HX:=hidden (HX.out.allocG (.cells o19.toArray 31));have HK:=hidden (HK.out.allocG (.cells o19.toArray 31));have hHB0:w5.heap.size<=wx2.heap.size:=(by have h:=HX8.out.1; exact h);have HB:Hid (x1P (wx2.alloc (.cells o19.toArray 31)) wx2.heap.size z19):=z1X wx2 z19 rfl;have hne:wx1.heap.size≠wx2.heap.size:=(by have h:=HK8.out.lt; intro e; omega);have HTH:Hid ((wx2.alloc (.cells o19.toArray 31)).there wx2.heap.size 0 (h19 7 0 (.slice none 0 0) 0 0 (.slice none 0 0) ga gc (.slice (some ⟨wx1.heap.size,0,none⟩) 1 1)).toArray.size):=HB.out.there;have hii:(Tryz.prog.info? 31).map (·.size)=some (h19 7 0 (.slice none 0 0) 0 0 (.slice none 0 0) ga gc (.slice (some ⟨wx1.heap.size,0,none⟩) 1 1)).toArray.size:=by kernel_rfl
       have H1:Hid ((h19 7 0 (.slice none 0 0) 0 0 (.slice none 0 0) ga gc (.slice (some ⟨wx1.heap.size,0,none⟩) 1 1)).toArray.all (·.oneCell')=true):=j1W (⟨7,0,⟨0,false,⟨0,0,0,0⟩,⟨0,0,0,0⟩⟩,[],0,0,[],ga,gc⟩:Nd) (.slice none 0 0) (.slice none 0 0) (.slice (some ⟨wx1.heap.size,0,none⟩) 1 1) rfl rfl rfl;refine hK.out _ _ ?_ (fun hHeld=> ?_)
       ·
        (try dsimp only); exact SP.out.2.2.1.range
       clear hK K;try simp only [ap]
       refine r1 9 (fun K hK=> ?_);refine q1I rfl (wp_store_mid 31 (.tmp 14) (.tmp 134) rfl wx2.heap.size 0 (h19 7 0 (.slice none 0 0) 0 0 (.slice none 0 0) ga gc (.slice (some ⟨wx1.heap.size,0,none⟩) 1 1)).toArray (by simp [Act.eval]) (by simp [Act.eval]) HTH.out hii H1.out ?_);generalize hW9:World.setCells _ _ _ _=W9;refine hK.out _ _ ?_ (fun hHeld=> ?_)
       ·
        (try dsimp only); exact (SP.out.2.2.1.past (fun e=>by have:=S5.out.2.2.1.lt; have:=hHB0; omega) hW9).range
       clear hK K;try simp only [Act.put]
       refine dn ?_;have SV:=hidden (S5.out.part3 hgw SP.out.1 HX.out HK.out HB.out hHK0 hHB0 hne (⟨7,0,⟨0,false,⟨0,0,0,0⟩,⟨0,0,0,0⟩⟩,[],0,0,[],ga,gc⟩:Nd) rfl rfl hW9);clear hHeld;go_wp2_with fail;go_meet
       case rel=>exact ⟨_,_,_,_,_,rfl,SV.out⟩
      ·
       have HX8:=hidden HX.out;have HK8:=hidden HK.out;go_simp;have SP:=hidden (SK.out.below hgw (z1B (.cells o19.toArray 31)));have HX:=hidden (HX.out.allocG (.cells o19.toArray 31));have HK:=hidden (HK.out.allocG (.cells o19.toArray 31));have hHB0:w5.heap.size<=wx1.heap.size+1:=(by have h:=HX8.out.1; simp only [q1C] at h; exact h);have HB:Hid (x1P ((wx1.alloc (.cells (z1J a.nd va ka da).toArray 31)).alloc (.cells o19.toArray 31)) (wx1.heap.size+1) z19):=(by have h:=z1X (wx1.alloc (.cells (z1J a.nd va ka da).toArray 31)) z19 rfl; rw [q1C] at h; exact h);have hne:wx1.heap.size≠(wx1.heap.size+1):=(by have h:=HK8.out.lt; simp only [q1C] at h; intro e; omega);refine hK.out _ _ ?_ (fun hHeld=> ?_)
       ·
        (try dsimp only); exact SP.out.2.2.1.range
       clear hK K;try simp only [ap]
       refine r1 4 (fun K hK=> ?_);go_simp;(go_at_call 18; refine (z1L g _ wd _ (by omega) (by omega) (by omega) SP.out.1.1).mono ?_; rintro e wx2 ⟨gc,gc0,gc1,rfl,hr9,hg9⟩);have S2:=hidden (SP.out.call hgw hg9 hr9);have HX:=hidden (HX.out.callG hg9 (by omega));have HK:=hidden (HK.out.grown hg9 (fun e=>by simp at e; have:=HX.out.1; have:=HK.out.lt; have:=h5s; have:=hHK0; omega));have HB:=hidden (HB.out.grown hg9 (fun e=>by simp at e; have:=HX.out.1; have:=HB.out.lt; have:=h5s; have:=hHB0; omega));clear hr9 hg9;have HTH:Hid (wx2.there (wx1.heap.size+1) 0 (h19 7 0 (.slice none 0 0) 0 0 (.slice none 0 0) ga gc (.slice (some ⟨wx1.heap.size,0,none⟩) 1 1)).toArray.size):=HB.out.there;have hii:(Tryz.prog.info? 31).map (·.size)=some (h19 7 0 (.slice none 0 0) 0 0 (.slice none 0 0) ga gc (.slice (some ⟨wx1.heap.size,0,none⟩) 1 1)).toArray.size:=by kernel_rfl
       have H1:Hid ((h19 7 0 (.slice none 0 0) 0 0 (.slice none 0 0) ga gc (.slice (some ⟨wx1.heap.size,0,none⟩) 1 1)).toArray.all (·.oneCell')=true):=j1W (⟨7,0,⟨0,false,⟨0,0,0,0⟩,⟨0,0,0,0⟩⟩,[],0,0,[],ga,gc⟩:Nd) (.slice none 0 0) (.slice none 0 0) (.slice (some ⟨wx1.heap.size,0,none⟩) 1 1) rfl rfl rfl;refine hK.out _ _ ?_ (fun hHeld=> ?_)
       ·
        (try dsimp only); exact S2.out.2.2.1.range
       clear hK K;try simp only [ap]
       refine tk 7 ?_; simp only [ap];refine r1 9 (fun K hK=> ?_);refine q1I rfl (wp_store_mid 31 (.tmp 14) (.tmp 134) rfl (wx1.heap.size+1) 0 (h19 7 0 (.slice none 0 0) 0 0 (.slice none 0 0) ga gc (.slice (some ⟨wx1.heap.size,0,none⟩) 1 1)).toArray (by simp [Act.eval]) (by simp [Act.eval]) HTH.out hii H1.out ?_);generalize hW9:World.setCells _ _ _ _=W9;refine hK.out _ _ ?_ (fun hHeld=> ?_)
       ·
        (try dsimp only); exact (S2.out.2.2.1.past (fun e=>by have:=S5.out.2.2.1.lt; have:=hHB0; omega) hW9).range
       clear hK K;try simp only [Act.put]
       refine dn ?_;have SV:=hidden (S5.out.part3 hgw S2.out.1 HX.out HK.out HB.out hHK0 hHB0 hne (⟨7,0,⟨0,false,⟨0,0,0,0⟩,⟨0,0,0,0⟩⟩,[],0,0,[],ga,gc⟩:Nd) rfl rfl hW9);clear hHeld;go_wp2_with fail;go_meet
       case rel=>exact ⟨_,_,_,_,_,rfl,SV.out⟩
     ·
      have HX8:=hidden HX.out;go_simp;have SP:=hidden (S1.out.below hgw (z1B (.cells o19.toArray 31)));have HX:=hidden (HX.out.allocG (.cells o19.toArray 31));have hHB0:w5.heap.size<=wx1.heap.size:=(by have h:=HX8.out.1; exact h);have HB:Hid (x1P (wx1.alloc (.cells o19.toArray 31)) wx1.heap.size z19):=z1X wx1 z19 rfl;refine hK.out _ _ ?_ (fun hHeld=> ?_)
      ·
       (try dsimp only); exact SP.out.2.2.1.range
      clear hK K;try simp only [ap]
      refine wpAnyH_ready (rs:=[4,6]) (by kernel_rfl) (by simp) ?_;refine AllReadyH.cons rfl (fun K hK=> ?_) (AllReadyH.cons rfl (fun K hK=> ?_) AllReadyH.nil)
      ·
       go_simp;(go_at_call 18; refine (z1L g _ wd _ (by omega) (by omega) (by omega) SP.out.1.1).mono ?_; rintro e wx2 ⟨gc,gc0,gc1,rfl,hr9,hg9⟩);have S2:=hidden (SP.out.call hgw hg9 hr9);have HX:=hidden (HX.out.callG hg9 (by omega));have HB:=hidden (HB.out.grown hg9 (fun e=>by simp at e; have:=HX.out.1; have:=HB.out.lt; have:=h5s; have:=hHB0; omega));clear hr9 hg9;refine hK.out _ _ ?_ (fun hHeld=> ?_)
       ·
        (try dsimp only); exact S2.out.2.2.1.range
       clear hK K;try simp only [ap]
       refine r1 6 (fun K hK=> ?_);have HX8:=hidden HX.out;have HB8:=hidden HB.out;go_simp;have SK:=hidden (S2.out.below hgw (z1B (.cells (z1J a.nd va ka da).toArray 31)));have HX:=hidden (HX.out.allocG (.cells (z1J a.nd va ka da).toArray 31));have HB:=hidden (HB.out.allocG (.cells (z1J a.nd va ka da).toArray 31));have hHK0:w5.heap.size<=wx2.heap.size:=(by have h:=HX8.out.1; exact h);have HK:Hid (x1P (wx2.alloc (.cells (z1J a.nd va ka da).toArray 31)) wx2.heap.size (z1J a.nd va ka da)):=z1X wx2 (z1J a.nd va ka da) rfl;have hne:wx2.heap.size≠wx1.heap.size:=(by have h:=HB8.out.lt; intro e; omega);have HTH:Hid ((wx2.alloc (.cells (z1J a.nd va ka da).toArray 31)).there wx1.heap.size 0 (h19 7 0 (.slice none 0 0) 0 0 (.slice none 0 0) ga gc (.slice (some ⟨wx2.heap.size,0,none⟩) 1 1)).toArray.size):=HB.out.there;have hii:(Tryz.prog.info? 31).map (·.size)=some (h19 7 0 (.slice none 0 0) 0 0 (.slice none 0 0) ga gc (.slice (some ⟨wx2.heap.size,0,none⟩) 1 1)).toArray.size:=by kernel_rfl
       have H1:Hid ((h19 7 0 (.slice none 0 0) 0 0 (.slice none 0 0) ga gc (.slice (some ⟨wx2.heap.size,0,none⟩) 1 1)).toArray.all (·.oneCell')=true):=j1W (⟨7,0,⟨0,false,⟨0,0,0,0⟩,⟨0,0,0,0⟩⟩,[],0,0,[],ga,gc⟩:Nd) (.slice none 0 0) (.slice none 0 0) (.slice (some ⟨wx2.heap.size,0,none⟩) 1 1) rfl rfl rfl;refine hK.out _ _ ?_ (fun hHeld=> ?_)
       ·
        (try dsimp only); exact SK.out.2.2.1.range
       clear hK K;try simp only [ap]
       refine tk 7 ?_; simp only [ap];refine r1 9 (fun K hK=> ?_);refine q1I rfl (wp_store_mid 31 (.tmp 14) (.tmp 134) rfl wx1.heap.size 0 (h19 7 0 (.slice none 0 0) 0 0 (.slice none 0 0) ga gc (.slice (some ⟨wx2.heap.size,0,none⟩) 1 1)).toArray (by simp [Act.eval]) (by simp [Act.eval]) HTH.out hii H1.out ?_);generalize hW9:World.setCells _ _ _ _=W9;refine hK.out _ _ ?_ (fun hHeld=> ?_)
       ·
        (try dsimp only); exact (SK.out.2.2.1.past (fun e=>by have:=S5.out.2.2.1.lt; have:=hHB0; omega) hW9).range
       clear hK K;try simp only [Act.put]
       refine dn ?_;have SV:=hidden (S5.out.part3 hgw SK.out.1 HX.out HK.out HB.out hHK0 hHB0 hne (⟨7,0,⟨0,false,⟨0,0,0,0⟩,⟨0,0,0,0⟩⟩,[],0,0,[],ga,gc⟩:Nd) rfl rfl hW9);clear hHeld;go_wp2_with fail;go_meet
       case rel=>exact ⟨_,_,_,_,_,rfl,SV.out⟩
      ·
       have HX8:=hidden HX.out;have HB8:=hidden HB.out;go_simp;have SK:=hidden (SP.out.below hgw (z1B (.cells (z1J a.nd va ka da).toArray 31)));have HX:=hidden (HX.out.allocG (.cells (z1J a.nd va ka da).toArray 31));have HB:=hidden (HB.out.allocG (.cells (z1J a.nd va ka da).toArray 31));have hHK0:w5.heap.size<=wx1.heap.size+1:=(by have h:=HX8.out.1; simp only [q1C] at h; exact h);have HK:Hid (x1P ((wx1.alloc (.cells o19.toArray 31)).alloc (.cells (z1J a.nd va ka da).toArray 31)) (wx1.heap.size+1) (z1J a.nd va ka da)):=(by have h:=z1X (wx1.alloc (.cells o19.toArray 31)) (z1J a.nd va ka da) rfl; rw [q1C] at h; exact h);have hne:(wx1.heap.size+1)≠wx1.heap.size:=(by have h:=HB8.out.lt; simp only [q1C] at h; intro e; omega);refine hK.out _ _ ?_ (fun hHeld=> ?_)
       ·
        (try dsimp only); exact SK.out.2.2.1.range
       clear hK K;try simp only [ap]
       refine r1 4 (fun K hK=> ?_);go_simp;(go_at_call 18; refine (z1L g _ wd _ (by omega) (by omega) (by omega) SK.out.1.1).mono ?_; rintro e wx2 ⟨gc,gc0,gc1,rfl,hr9,hg9⟩);have S2:=hidden (SK.out.call hgw hg9 hr9);have HX:=hidden (HX.out.callG hg9 (by omega));have HK:=hidden (HK.out.grown hg9 (fun e=>by simp at e; have:=HX.out.1; have:=HK.out.lt; have:=h5s; have:=hHK0; omega));have HB:=hidden (HB.out.grown hg9 (fun e=>by simp at e; have:=HX.out.1; have:=HB.out.lt; have:=h5s; have:=hHB0; omega));clear hr9 hg9;have HTH:Hid (wx2.there wx1.heap.size 0 (h19 7 0 (.slice none 0 0) 0 0 (.slice none 0 0) ga gc (.slice (some ⟨(wx1.heap.size+1),0,none⟩) 1 1)).toArray.size):=HB.out.there;have hii:(Tryz.prog.info? 31).map (·.size)=some (h19 7 0 (.slice none 0 0) 0 0 (.slice none 0 0) ga gc (.slice (some ⟨(wx1.heap.size+1),0,none⟩) 1 1)).toArray.size:=by kernel_rfl
       have H1:Hid ((h19 7 0 (.slice none 0 0) 0 0 (.slice none 0 0) ga gc (.slice (some ⟨(wx1.heap.size+1),0,none⟩) 1 1)).toArray.all (·.oneCell')=true):=j1W (⟨7,0,⟨0,false,⟨0,0,0,0⟩,⟨0,0,0,0⟩⟩,[],0,0,[],ga,gc⟩:Nd) (.slice none 0 0) (.slice none 0 0) (.slice (some ⟨(wx1.heap.size+1),0,none⟩) 1 1) rfl rfl rfl;refine hK.out _ _ ?_ (fun hHeld=> ?_)
       ·
        (try dsimp only); exact S2.out.2.2.1.range
       clear hK K;try simp only [ap]
       refine tk 7 ?_; simp only [ap];refine r1 9 (fun K hK=> ?_);refine q1I rfl (wp_store_mid 31 (.tmp 14) (.tmp 134) rfl wx1.heap.size 0 (h19 7 0 (.slice none 0 0) 0 0 (.slice none 0 0) ga gc (.slice (some ⟨(wx1.heap.size+1),0,none⟩) 1 1)).toArray (by simp [Act.eval]) (by simp [Act.eval]) HTH.out hii H1.out ?_);generalize hW9:World.setCells _ _ _ _=W9;refine hK.out _ _ ?_ (fun hHeld=> ?_)
       ·
        (try dsimp only); exact (S2.out.2.2.1.past (fun e=>by have:=S5.out.2.2.1.lt; have:=hHB0; omega) hW9).range
       clear hK K;try simp only [Act.put]
       refine dn ?_;have SV:=hidden (S5.out.part3 hgw S2.out.1 HX.out HK.out HB.out hHK0 hHB0 hne (⟨7,0,⟨0,false,⟨0,0,0,0⟩,⟨0,0,0,0⟩⟩,[],0,0,[],ga,gc⟩:Nd) rfl rfl hW9);clear hHeld;go_wp2_with fail;go_meet
       case rel=>exact ⟨_,_,_,_,_,rfl,SV.out⟩
    ·
     have HX8:=hidden HX.out;go_simp;have SK:=hidden (SD.out.below hgw (z1B (.cells (z1J a.nd va ka da).toArray 31)));have HX:=hidden (HX.out.allocG (.cells (z1J a.nd va ka da).toArray 31));have hHK0:w5.heap.size<=w5.heap.size:=(by have h:=HX0.out.1; exact h);have HK:Hid (x1P ((w5.drewN 1).alloc (.cells (z1J a.nd va ka da).toArray 31)) w5.heap.size (z1J a.nd va ka da)):=z1X (w5.drewN 1) (z1J a.nd va ka da) rfl;refine hK.out _ _ ?_ (fun hHeld=> ?_)
     ·
      (try dsimp only); exact SK.out.2.2.1.range
     clear hK K;try simp only [ap]
     refine wpAnyH_ready (rs:=[1,8]) (by kernel_rfl) (by simp) ?_;refine AllReadyH.cons rfl (fun K hK=> ?_) (AllReadyH.cons rfl (fun K hK=> ?_) AllReadyH.nil)
     ·
      go_simp;(go_at_call 18; refine (z1L g _ 4 _ (by omega) (by omega) (by omega) SK.out.1.1).mono ?_; rintro e wx1 ⟨ga,ga0,ga1,rfl,hr9,hg9⟩);have S1:=hidden (SK.out.call hgw hg9 hr9);have HX:=hidden (HX.out.callG hg9 (by omega));have HK:=hidden (HK.out.grown hg9 (fun e=>by simp at e; have:=HX.out.1; have:=HK.out.lt; have:=h5s; have:=hHK0; omega));clear hr9 hg9;refine hK.out _ _ ?_ (fun hHeld=> ?_)
      ·
       (try dsimp only); exact S1.out.2.2.1.range
      clear hK K;try simp only [ap]
      refine wpAnyH_ready (rs:=[4,8]) (by kernel_rfl) (by simp) ?_;refine AllReadyH.cons rfl (fun K hK=> ?_) (AllReadyH.cons rfl (fun K hK=> ?_) AllReadyH.nil)
      ·
       go_simp;(go_at_call 18; refine (z1L g _ wd _ (by omega) (by omega) (by omega) S1.out.1.1).mono ?_; rintro e wx2 ⟨gc,gc0,gc1,rfl,hr9,hg9⟩);have S2:=hidden (S1.out.call hgw hg9 hr9);have HX:=hidden (HX.out.callG hg9 (by omega));have HK:=hidden (HK.out.grown hg9 (fun e=>by simp at e; have:=HX.out.1; have:=HK.out.lt; have:=h5s; have:=hHK0; omega));clear hr9 hg9;refine hK.out _ _ ?_ (fun hHeld=> ?_)
       ·
        (try dsimp only); exact S2.out.2.2.1.range
       clear hK K;try simp only [ap]
       refine tk 7 ?_; simp only [ap];refine r1 8 (fun K hK=> ?_);have HX8:=hidden HX.out;have HK8:=hidden HK.out;go_simp;have SP:=hidden (S2.out.below hgw (z1B (.cells o19.toArray 31)));have HX:=hidden (HX.out.allocG (.cells o19.toArray 31));have HK:=hidden (HK.out.allocG (.cells o19.toArray 31));have hHB0:w5.heap.size<=wx2.heap.size:=(by have h:=HX8.out.1; exact h);have HB:Hid (x1P (wx2.alloc (.cells o19.toArray 31)) wx2.heap.size z19):=z1X wx2 z19 rfl;have hne:w5.heap.size≠wx2.heap.size:=(by have h:=HK8.out.lt; intro e; omega);have HTH:Hid ((wx2.alloc (.cells o19.toArray 31)).there wx2.heap.size 0 (h19 7 0 (.slice none 0 0) 0 0 (.slice none 0 0) ga gc (.slice (some ⟨w5.heap.size,0,none⟩) 1 1)).toArray.size):=HB.out.there;have hii:(Tryz.prog.info? 31).map (·.size)=some (h19 7 0 (.slice none 0 0) 0 0 (.slice none 0 0) ga gc (.slice (some ⟨w5.heap.size,0,none⟩) 1 1)).toArray.size:=by kernel_rfl
       have H1:Hid ((h19 7 0 (.slice none 0 0) 0 0 (.slice none 0 0) ga gc (.slice (some ⟨w5.heap.size,0,none⟩) 1 1)).toArray.all (·.oneCell')=true):=j1W (⟨7,0,⟨0,false,⟨0,0,0,0⟩,⟨0,0,0,0⟩⟩,[],0,0,[],ga,gc⟩:Nd) (.slice none 0 0) (.slice none 0 0) (.slice (some ⟨w5.heap.size,0,none⟩) 1 1) rfl rfl rfl;refine hK.out _ _ ?_ (fun hHeld=> ?_)
       ·
        (try dsimp only); exact SP.out.2.2.1.range
       clear hK K;try simp only [ap]
       refine r1 9 (fun K hK=> ?_);refine q1I rfl (wp_store_mid 31 (.tmp 14) (.tmp 134) rfl wx2.heap.size 0 (h19 7 0 (.slice none 0 0) 0 0 (.slice none 0 0) ga gc (.slice (some ⟨w5.heap.size,0,none⟩) 1 1)).toArray (by simp [Act.eval]) (by simp [Act.eval]) HTH.out hii H1.out ?_);generalize hW9:World.setCells _ _ _ _=W9;refine hK.out _ _ ?_ (fun hHeld=> ?_)
       ·
        (try dsimp only); exact (SP.out.2.2.1.past (fun e=>by have:=S5.out.2.2.1.lt; have:=hHB0; omega) hW9).range
       clear hK K;try simp only [Act.put]
       refine dn ?_;have SV:=hidden (S5.out.part3 hgw SP.out.1 HX.out HK.out HB.out hHK0 hHB0 hne (⟨7,0,⟨0,false,⟨0,0,0,0⟩,⟨0,0,0,0⟩⟩,[],0,0,[],ga,gc⟩:Nd) rfl rfl hW9);clear hHeld;go_wp2_with fail;go_meet
       case rel=>exact ⟨_,_,_,_,_,rfl,SV.out⟩
      ·
       have HX8:=hidden HX.out;have HK8:=hidden HK.out;go_simp;have SP:=hidden (S1.out.below hgw (z1B (.cells o19.toArray 31)));have HX:=hidden (HX.out.allocG (.cells o19.toArray 31));have HK:=hidden (HK.out.allocG (.cells o19.toArray 31));have hHB0:w5.heap.size<=wx1.heap.size:=(by have h:=HX8.out.1; exact h);have HB:Hid (x1P (wx1.alloc (.cells o19.toArray 31)) wx1.heap.size z19):=z1X wx1 z19 rfl;have hne:w5.heap.size≠wx1.heap.size:=(by have h:=HK8.out.lt; intro e; omega);refine hK.out _ _ ?_ (fun hHeld=> ?_)
       ·
        (try dsimp only); exact SP.out.2.2.1.range
       clear hK K;try simp only [ap]
       refine r1 4 (fun K hK=> ?_);go_simp;(go_at_call 18; refine (z1L g _ wd _ (by omega) (by omega) (by omega) SP.out.1.1).mono ?_; rintro e wx2 ⟨gc,gc0,gc1,rfl,hr9,hg9⟩);have S2:=hidden (SP.out.call hgw hg9 hr9);have HX:=hidden (HX.out.callG hg9 (by omega));have HK:=hidden (HK.out.grown hg9 (fun e=>by simp at e; have:=HX.out.1; have:=HK.out.lt; have:=h5s; have:=hHK0; omega));have HB:=hidden (HB.out.grown hg9 (fun e=>by simp at e; have:=HX.out.1; have:=HB.out.lt; have:=h5s; have:=hHB0; omega));clear hr9 hg9;have HTH:Hid (wx2.there wx1.heap.size 0 (h19 7 0 (.slice none 0 0) 0 0 (.slice none 0 0) ga gc (.slice (some ⟨w5.heap.size,0,none⟩) 1 1)).toArray.size):=HB.out.there;have hii:(Tryz.prog.info? 31).map (·.size)=some (h19 7 0 (.slice none 0 0) 0 0 (.slice none 0 0) ga gc (.slice (some ⟨w5.heap.size,0,none⟩) 1 1)).toArray.size:=by kernel_rfl
       have H1:Hid ((h19 7 0 (.slice none 0 0) 0 0 (.slice none 0 0) ga gc (.slice (some ⟨w5.heap.size,0,none⟩) 1 1)).toArray.all (·.oneCell')=true):=j1W (⟨7,0,⟨0,false,⟨0,0,0,0⟩,⟨0,0,0,0⟩⟩,[],0,0,[],ga,gc⟩:Nd) (.slice none 0 0) (.slice none 0 0) (.slice (some ⟨w5.heap.size,0,none⟩) 1 1) rfl rfl rfl;refine hK.out _ _ ?_ (fun hHeld=> ?_)
       ·
        (try dsimp only); exact S2.out.2.2.1.range
       clear hK K;try simp only [ap]
       refine tk 7 ?_; simp only [ap];refine r1 9 (fun K hK=> ?_);refine q1I rfl (wp_store_mid 31 (.tmp 14) (.tmp 134) rfl wx1.heap.size 0 (h19 7 0 (.slice none 0 0) 0 0 (.slice none 0 0) ga gc (.slice (some ⟨w5.heap.size,0,none⟩) 1 1)).toArray (by simp [Act.eval]) (by simp [Act.eval]) HTH.out hii H1.out ?_);generalize hW9:World.setCells _ _ _ _=W9;refine hK.out _ _ ?_ (fun hHeld=> ?_)
       ·
        (try dsimp only); exact (S2.out.2.2.1.past (fun e=>by have:=S5.out.2.2.1.lt; have:=hHB0; omega) hW9).range
       clear hK K;try simp only [Act.put]
       refine dn ?_;have SV:=hidden (S5.out.part3 hgw S2.out.1 HX.out HK.out HB.out hHK0 hHB0 hne (⟨7,0,⟨0,false,⟨0,0,0,0⟩,⟨0,0,0,0⟩⟩,[],0,0,[],ga,gc⟩:Nd) rfl rfl hW9);clear hHeld;go_wp2_with fail;go_meet
       case rel=>exact ⟨_,_,_,_,_,rfl,SV.out⟩
     ·
      have HX8:=hidden HX.out;have HK8:=hidden HK.out;go_simp;have SP:=hidden (SK.out.below hgw (z1B (.cells o19.toArray 31)));have HX:=hidden (HX.out.allocG (.cells o19.toArray 31));have HK:=hidden (HK.out.allocG (.cells o19.toArray 31));have hHB0:w5.heap.size<=w5.heap.size+1:=(by have h:=HX8.out.1; simp only [q1C] at h; exact h);have HB:Hid (x1P (((w5.drewN 1).alloc (.cells (z1J a.nd va ka da).toArray 31)).alloc (.cells o19.toArray 31)) (w5.heap.size+1) z19):=(by have h:=z1X ((w5.drewN 1).alloc (.cells (z1J a.nd va ka da).toArray 31)) z19 rfl; rw [q1C] at h; exact h);have hne:w5.heap.size≠(w5.heap.size+1):=(by have h:=HK8.out.lt; simp only [q1C] at h; intro e; omega);refine hK.out _ _ ?_ (fun hHeld=> ?_)
      ·
       (try dsimp only); exact SP.out.2.2.1.range
      clear hK K;try simp only [ap]
      refine r1 1 (fun K hK=> ?_);go_simp;(go_at_call 18; refine (z1L g _ 4 _ (by omega) (by omega) (by omega) SP.out.1.1).mono ?_; rintro e wx1 ⟨ga,ga0,ga1,rfl,hr9,hg9⟩);have S1:=hidden (SP.out.call hgw hg9 hr9);have HX:=hidden (HX.out.callG hg9 (by omega));have HK:=hidden (HK.out.grown hg9 (fun e=>by simp at e; have:=HX.out.1; have:=HK.out.lt; have:=h5s; have:=hHK0; omega));have HB:=hidden (HB.out.grown hg9 (fun e=>by simp at e; have:=HX.out.1; have:=HB.out.lt; have:=h5s; have:=hHB0; omega));clear hr9 hg9;refine hK.out _ _ ?_ (fun hHeld=> ?_)
      ·
       (try dsimp only); exact S1.out.2.2.1.range
      clear hK K;try simp only [ap]
      refine r1 4 (fun K hK=> ?_);go_simp;(go_at_call 18; refine (z1L g _ wd _ (by omega) (by omega) (by omega) S1.out.1.1).mono ?_; rintro e wx2 ⟨gc,gc0,gc1,rfl,hr9,hg9⟩);have S2:=hidden (S1.out.call hgw hg9 hr9);have HX:=hidden (HX.out.callG hg9 (by omega));have HK:=hidden (HK.out.grown hg9 (fun e=>by simp at e; have:=HX.out.1; have:=HK.out.lt; have:=h5s; have:=hHK0; omega));have HB:=hidden (HB.out.grown hg9 (fun e=>by simp at e; have:=HX.out.1; have:=HB.out.lt; have:=h5s; have:=hHB0; omega));clear hr9 hg9;have HTH:Hid (wx2.there (w5.heap.size+1) 0 (h19 7 0 (.slice none 0 0) 0 0 (.slice none 0 0) ga gc (.slice (some ⟨w5.heap.size,0,none⟩) 1 1)).toArray.size):=HB.out.there;have hii:(Tryz.prog.info? 31).map (·.size)=some (h19 7 0 (.slice none 0 0) 0 0 (.slice none 0 0) ga gc (.slice (some ⟨w5.heap.size,0,none⟩) 1 1)).toArray.size:=by kernel_rfl
      have H1:Hid ((h19 7 0 (.slice none 0 0) 0 0 (.slice none 0 0) ga gc (.slice (some ⟨w5.heap.size,0,none⟩) 1 1)).toArray.all (·.oneCell')=true):=j1W (⟨7,0,⟨0,false,⟨0,0,0,0⟩,⟨0,0,0,0⟩⟩,[],0,0,[],ga,gc⟩:Nd) (.slice none 0 0) (.slice none 0 0) (.slice (some ⟨w5.heap.size,0,none⟩) 1 1) rfl rfl rfl;refine hK.out _ _ ?_ (fun hHeld=> ?_)
      ·
       (try dsimp only); exact S2.out.2.2.1.range
      clear hK K;try simp only [ap]
      refine tk 7 ?_; simp only [ap];refine r1 9 (fun K hK=> ?_);refine q1I rfl (wp_store_mid 31 (.tmp 14) (.tmp 134) rfl (w5.heap.size+1) 0 (h19 7 0 (.slice none 0 0) 0 0 (.slice none 0 0) ga gc (.slice (some ⟨w5.heap.size,0,none⟩) 1 1)).toArray (by simp [Act.eval]) (by simp [Act.eval]) HTH.out hii H1.out ?_);generalize hW9:World.setCells _ _ _ _=W9;refine hK.out _ _ ?_ (fun hHeld=> ?_)
      ·
       (try dsimp only); exact (S2.out.2.2.1.past (fun e=>by have:=S5.out.2.2.1.lt; have:=hHB0; omega) hW9).range
      clear hK K;try simp only [Act.put]
      refine dn ?_;have SV:=hidden (S5.out.part3 hgw S2.out.1 HX.out HK.out HB.out hHK0 hHB0 hne (⟨7,0,⟨0,false,⟨0,0,0,0⟩,⟨0,0,0,0⟩⟩,[],0,0,[],ga,gc⟩:Nd) rfl rfl hW9);clear hHeld;go_wp2_with fail;go_meet
      case rel=>exact ⟨_,_,_,_,_,rfl,SV.out⟩
    ·
     have HX8:=hidden HX.out;go_simp;have SP:=hidden (SD.out.below hgw (z1B (.cells o19.toArray 31)));have HX:=hidden (HX.out.allocG (.cells o19.toArray 31));have hHB0:w5.heap.size<=w5.heap.size:=(by have h:=HX0.out.1; exact h);have HB:Hid (x1P ((w5.drewN 1).alloc (.cells o19.toArray 31)) w5.heap.size z19):=z1X (w5.drewN 1) z19 rfl;refine hK.out _ _ ?_ (fun hHeld=> ?_)
     ·
      (try dsimp only); exact SP.out.2.2.1.range
     clear hK K;try simp only [ap]
     refine wpAnyH_ready (rs:=[1,6]) (by kernel_rfl) (by simp) ?_;refine AllReadyH.cons rfl (fun K hK=> ?_) (AllReadyH.cons rfl (fun K hK=> ?_) AllReadyH.nil)
     ·
      go_simp;(go_at_call 18; refine (z1L g _ 4 _ (by omega) (by omega) (by omega) SP.out.1.1).mono ?_; rintro e wx1 ⟨ga,ga0,ga1,rfl,hr9,hg9⟩);have S1:=hidden (SP.out.call hgw hg9 hr9);have HX:=hidden (HX.out.callG hg9 (by omega));have HB:=hidden (HB.out.grown hg9 (fun e=>by simp at e; have:=HX.out.1; have:=HB.out.lt; have:=h5s; have:=hHB0; omega));clear hr9 hg9;refine hK.out _ _ ?_ (fun hHeld=> ?_)
      ·
       (try dsimp only); exact S1.out.2.2.1.range
      clear hK K;try simp only [ap]
      refine wpAnyH_ready (rs:=[4,6]) (by kernel_rfl) (by simp) ?_;refine AllReadyH.cons rfl (fun K hK=> ?_) (AllReadyH.cons rfl (fun K hK=> ?_) AllReadyH.nil)
      ·
       go_simp;(go_at_call 18; refine (z1L g _ wd _ (by omega) (by omega) (by omega) S1.out.1.1).mono ?_; rintro e wx2 ⟨gc,gc0,gc1,rfl,hr9,hg9⟩);have S2:=hidden (S1.out.call hgw hg9 hr9);have HX:=hidden (HX.out.callG hg9 (by omega));have HB:=hidden (HB.out.grown hg9 (fun e=>by simp at e; have:=HX.out.1; have:=HB.out.lt; have:=h5s; have:=hHB0; omega));clear hr9 hg9;refine hK.out _ _ ?_ (fun hHeld=> ?_)
       ·
        (try dsimp only); exact S2.out.2.2.1.range
       clear hK K;try simp only [ap]
       refine r1 6 (fun K hK=> ?_);have HX8:=hidden HX.out;have HB8:=hidden HB.out;go_simp;have SK:=hidden (S2.out.below hgw (z1B (.cells (z1J a.nd va ka da).toArray 31)));have HX:=hidden (HX.out.allocG (.cells (z1J a.nd va ka da).toArray 31));have HB:=hidden (HB.out.allocG (.cells (z1J a.nd va ka da).toArray 31));have hHK0:w5.heap.size<=wx2.heap.size:=(by have h:=HX8.out.1; exact h);have HK:Hid (x1P (wx2.alloc (.cells (z1J a.nd va ka da).toArray 31)) wx2.heap.size (z1J a.nd va ka da)):=z1X wx2 (z1J a.nd va ka da) rfl;have hne:wx2.heap.size≠w5.heap.size:=(by have h:=HB8.out.lt; intro e; omega);have HTH:Hid ((wx2.alloc (.cells (z1J a.nd va ka da).toArray 31)).there w5.heap.size 0 (h19 7 0 (.slice none 0 0) 0 0 (.slice none 0 0) ga gc (.slice (some ⟨wx2.heap.size,0,none⟩) 1 1)).toArray.size):=HB.out.there;have hii:(Tryz.prog.info? 31).map (·.size)=some (h19 7 0 (.slice none 0 0) 0 0 (.slice none 0 0) ga gc (.slice (some ⟨wx2.heap.size,0,none⟩) 1 1)).toArray.size:=by kernel_rfl
       have H1:Hid ((h19 7 0 (.slice none 0 0) 0 0 (.slice none 0 0) ga gc (.slice (some ⟨wx2.heap.size,0,none⟩) 1 1)).toArray.all (·.oneCell')=true):=j1W (⟨7,0,⟨0,false,⟨0,0,0,0⟩,⟨0,0,0,0⟩⟩,[],0,0,[],ga,gc⟩:Nd) (.slice none 0 0) (.slice none 0 0) (.slice (some ⟨wx2.heap.size,0,none⟩) 1 1) rfl rfl rfl;refine hK.out _ _ ?_ (fun hHeld=> ?_)
       ·
        (try dsimp only); exact SK.out.2.2.1.range
       clear hK K;try simp only [ap]
       refine tk 7 ?_; simp only [ap];refine r1 9 (fun K hK=> ?_);refine q1I rfl (wp_store_mid 31 (.tmp 14) (.tmp 134) rfl w5.heap.size 0 (h19 7 0 (.slice none 0 0) 0 0 (.slice none 0 0) ga gc (.slice (some ⟨wx2.heap.size,0,none⟩) 1 1)).toArray (by simp [Act.eval]) (by simp [Act.eval]) HTH.out hii H1.out ?_);generalize hW9:World.setCells _ _ _ _=W9;refine hK.out _ _ ?_ (fun hHeld=> ?_)
       ·
        (try dsimp only); exact (SK.out.2.2.1.past (fun e=>by have:=S5.out.2.2.1.lt; have:=hHB0; omega) hW9).range
       clear hK K;try simp only [Act.put]
       refine dn ?_;have SV:=hidden (S5.out.part3 hgw SK.out.1 HX.out HK.out HB.out hHK0 hHB0 hne (⟨7,0,⟨0,false,⟨0,0,0,0⟩,⟨0,0,0,0⟩⟩,[],0,0,[],ga,gc⟩:Nd) rfl rfl hW9);clear hHeld;go_wp2_with fail;go_meet
       case rel=>exact ⟨_,_,_,_,_,rfl,SV.out⟩
      ·
       have HX8:=hidden HX.out;have HB8:=hidden HB.out;go_simp;have SK:=hidden (S1.out.below hgw (z1B (.cells (z1J a.nd va ka da).toArray 31)));have HX:=hidden (HX.out.allocG (.cells (z1J a.nd va ka da).toArray 31));have HB:=hidden (HB.out.allocG (.cells (z1J a.nd va ka da).toArray 31));have hHK0:w5.heap.size<=wx1.heap.size:=(by have h:=HX8.out.1; exact h);have HK:Hid (x1P (wx1.alloc (.cells (z1J a.nd va ka da).toArray 31)) wx1.heap.size (z1J a.nd va ka da)):=z1X wx1 (z1J a.nd va ka da) rfl;have hne:wx1.heap.size≠w5.heap.size:=(by have h:=HB8.out.lt; intro e; omega);refine hK.out _ _ ?_ (fun hHeld=> ?_)
       ·
        (try dsimp only); exact SK.out.2.2.1.range
       clear hK K;try simp only [ap]
       refine r1 4 (fun K hK=> ?_);go_simp;(go_at_call 18; refine (z1L g _ wd _ (by omega) (by omega) (by omega) SK.out.1.1).mono ?_; rintro e wx2 ⟨gc,gc0,gc1,rfl,hr9,hg9⟩);have S2:=hidden (SK.out.call hgw hg9 hr9);have HX:=hidden (HX.out.callG hg9 (by omega));have HK:=hidden (HK.out.grown hg9 (fun e=>by simp at e; have:=HX.out.1; have:=HK.out.lt; have:=h5s; have:=hHK0; omega));have HB:=hidden (HB.out.grown hg9 (fun e=>by simp at e; have:=HX.out.1; have:=HB.out.lt; have:=h5s; have:=hHB0; omega));clear hr9 hg9;have HTH:Hid (wx2.there w5.heap.size 0 (h19 7 0 (.slice none 0 0) 0 0 (.slice none 0 0) ga gc (.slice (some ⟨wx1.heap.size,0,none⟩) 1 1)).toArray.size):=HB.out.there;have hii:(Tryz.prog.info? 31).map (·.size)=some (h19 7 0 (.slice none 0 0) 0 0 (.slice none 0 0) ga gc (.slice (some ⟨wx1.heap.size,0,none⟩) 1 1)).toArray.size:=by kernel_rfl
       have H1:Hid ((h19 7 0 (.slice none 0 0) 0 0 (.slice none 0 0) ga gc (.slice (some ⟨wx1.heap.size,0,none⟩) 1 1)).toArray.all (·.oneCell')=true):=j1W (⟨7,0,⟨0,false,⟨0,0,0,0⟩,⟨0,0,0,0⟩⟩,[],0,0,[],ga,gc⟩:Nd) (.slice none 0 0) (.slice none 0 0) (.slice (some ⟨wx1.heap.size,0,none⟩) 1 1) rfl rfl rfl;refine hK.out _ _ ?_ (fun hHeld=> ?_)
       ·
        (try dsimp only); exact S2.out.2.2.1.range
       clear hK K;try simp only [ap]
       refine tk 7 ?_; simp only [ap];refine r1 9 (fun K hK=> ?_);refine q1I rfl (wp_store_mid 31 (.tmp 14) (.tmp 134) rfl w5.heap.size 0 (h19 7 0 (.slice none 0 0) 0 0 (.slice none 0 0) ga gc (.slice (some ⟨wx1.heap.size,0,none⟩) 1 1)).toArray (by simp [Act.eval]) (by simp [Act.eval]) HTH.out hii H1.out ?_);generalize hW9:World.setCells _ _ _ _=W9;refine hK.out _ _ ?_ (fun hHeld=> ?_)
       ·
        (try dsimp only); exact (S2.out.2.2.1.past (fun e=>by have:=S5.out.2.2.1.lt; have:=hHB0; omega) hW9).range
       clear hK K;try simp only [Act.put]
       refine dn ?_;have SV:=hidden (S5.out.part3 hgw S2.out.1 HX.out HK.out HB.out hHK0 hHB0 hne (⟨7,0,⟨0,false,⟨0,0,0,0⟩,⟨0,0,0,0⟩⟩,[],0,0,[],ga,gc⟩:Nd) rfl rfl hW9);clear hHeld;go_wp2_with fail;go_meet
       case rel=>exact ⟨_,_,_,_,_,rfl,SV.out⟩
     ·
      have HX8:=hidden HX.out;have HB8:=hidden HB.out;go_simp;have SK:=hidden (SP.out.below hgw (z1B (.cells (z1J a.nd va ka da).toArray 31)));have HX:=hidden (HX.out.allocG (.cells (z1J a.nd va ka da).toArray 31));have HB:=hidden (HB.out.allocG (.cells (z1J a.nd va ka da).toArray 31));have hHK0:w5.heap.size<=w5.heap.size+1:=(by have h:=HX8.out.1; simp only [q1C] at h; exact h);have HK:Hid (x1P (((w5.drewN 1).alloc (.cells o19.toArray 31)).alloc (.cells (z1J a.nd va ka da).toArray 31)) (w5.heap.size+1) (z1J a.nd va ka da)):=(by have h:=z1X ((w5.drewN 1).alloc (.cells o19.toArray 31)) (z1J a.nd va ka da) rfl; rw [q1C] at h; exact h);have hne:(w5.heap.size+1)≠w5.heap.size:=(by have h:=HB8.out.lt; simp only [q1C] at h; intro e; omega);refine hK.out _ _ ?_ (fun hHeld=> ?_)
      ·
       (try dsimp only); exact SK.out.2.2.1.range
      clear hK K;try simp only [ap]
      refine r1 1 (fun K hK=> ?_);go_simp;(go_at_call 18; refine (z1L g _ 4 _ (by omega) (by omega) (by omega) SK.out.1.1).mono ?_; rintro e wx1 ⟨ga,ga0,ga1,rfl,hr9,hg9⟩);have S1:=hidden (SK.out.call hgw hg9 hr9);have HX:=hidden (HX.out.callG hg9 (by omega));have HK:=hidden (HK.out.grown hg9 (fun e=>by simp at e; have:=HX.out.1; have:=HK.out.lt; have:=h5s; have:=hHK0; omega));have HB:=hidden (HB.out.grown hg9 (fun e=>by simp at e; have:=HX.out.1; have:=HB.out.lt; have:=h5s; have:=hHB0; omega));clear hr9 hg9;refine hK.out _ _ ?_ (fun hHeld=> ?_)
      ·
       (try dsimp only); exact S1.out.2.2.1.range
      clear hK K;try simp only [ap]
      refine r1 4 (fun K hK=> ?_);go_simp;(go_at_call 18; refine (z1L g _ wd _ (by omega) (by omega) (by omega) S1.out.1.1).mono ?_; rintro e wx2 ⟨gc,gc0,gc1,rfl,hr9,hg9⟩);have S2:=hidden (S1.out.call hgw hg9 hr9);have HX:=hidden (HX.out.callG hg9 (by omega));have HK:=hidden (HK.out.grown hg9 (fun e=>by simp at e; have:=HX.out.1; have:=HK.out.lt; have:=h5s; have:=hHK0; omega));have HB:=hidden (HB.out.grown hg9 (fun e=>by simp at e; have:=HX.out.1; have:=HB.out.lt; have:=h5s; have:=hHB0; omega));clear hr9 hg9;have HTH:Hid (wx2.there w5.heap.size 0 (h19 7 0 (.slice none 0 0) 0 0 (.slice none 0 0) ga gc (.slice (some ⟨(w5.heap.size+1),0,none⟩) 1 1)).toArray.size):=HB.out.there;have hii:(Tryz.prog.info? 31).map (·.size)=some (h19 7 0 (.slice none 0 0) 0 0 (.slice none 0 0) ga gc (.slice (some ⟨(w5.heap.size+1),0,none⟩) 1 1)).toArray.size:=by kernel_rfl
      have H1:Hid ((h19 7 0 (.slice none 0 0) 0 0 (.slice none 0 0) ga gc (.slice (some ⟨(w5.heap.size+1),0,none⟩) 1 1)).toArray.all (·.oneCell')=true):=j1W (⟨7,0,⟨0,false,⟨0,0,0,0⟩,⟨0,0,0,0⟩⟩,[],0,0,[],ga,gc⟩:Nd) (.slice none 0 0) (.slice none 0 0) (.slice (some ⟨(w5.heap.size+1),0,none⟩) 1 1) rfl rfl rfl;refine hK.out _ _ ?_ (fun hHeld=> ?_)
      ·
       (try dsimp only); exact S2.out.2.2.1.range
      clear hK K;try simp only [ap]
      refine tk 7 ?_; simp only [ap];refine r1 9 (fun K hK=> ?_);refine q1I rfl (wp_store_mid 31 (.tmp 14) (.tmp 134) rfl w5.heap.size 0 (h19 7 0 (.slice none 0 0) 0 0 (.slice none 0 0) ga gc (.slice (some ⟨(w5.heap.size+1),0,none⟩) 1 1)).toArray (by simp [Act.eval]) (by simp [Act.eval]) HTH.out hii H1.out ?_);generalize hW9:World.setCells _ _ _ _=W9;refine hK.out _ _ ?_ (fun hHeld=> ?_)
      ·
       (try dsimp only); exact (S2.out.2.2.1.past (fun e=>by have:=S5.out.2.2.1.lt; have:=hHB0; omega) hW9).range
      clear hK K;try simp only [Act.put]
      refine dn ?_;have SV:=hidden (S5.out.part3 hgw S2.out.1 HX.out HK.out HB.out hHK0 hHB0 hne (⟨7,0,⟨0,false,⟨0,0,0,0⟩,⟨0,0,0,0⟩⟩,[],0,0,[],ga,gc⟩:Nd) rfl rfl hW9);clear hHeld;go_wp2_with fail;go_meet
      case rel=>exact ⟨_,_,_,_,_,rfl,SV.out⟩
   case rest=>
    obtain ⟨HI,Pb,Kb,ga,gc,rfl,SQ0⟩:=hcut;clear SD HX HX0 S5 h5s;obtain ⟨i0,hi0,hz0,hz1,hz2⟩:=info_parts infoInt;go_wp2_with fail;refine (z1L g _ 4 _ (by omega) (by omega) (by omega) SQ0.out.1.1).mono ?_;rintro e w8 ⟨q4,q40,q41,rfl,hr9,hg9⟩;have SQ:=hidden (SQ0.out.call hgw hg9 hr9);clear hr9 hg9;clear SQ0;by_cases hq4:0<q4
    ·
     have SD:=hidden (SQ.out.below hgw (below_drewN (Below.refl _ _) 1));go_wp2_with fail;go_cut [7] (fun wv wx=>wv = .int .i64 wd/\∃ (ks:List Int) (vk:Value),ks.length<=1/\Hid (StP w wx g (P+1+1000*T'+1+1+1+1+1) HI Pb (m+1) (Pl.mk (⟨7,0,⟨0,false,⟨0,0,0,0⟩,⟨0,0,0,0⟩⟩,[],0,0,ks,ga,gc⟩:Nd) [a]) (.slice none 0 0) vk (.slice (some ⟨Kb,0,none⟩) 1 1)))
     case first=>
      refine wp_region_held_drew (S:=(fun _:World=>True)) (by kernel_rfl) ?_ (fun hHeld=> ?_)
      ·
       (try dsimp only); (try trivial)
      refine tk 0 ?_; simp only [ap];refine tk 2 ?_; simp only [ap];refine tk 3 ?_; simp only [ap];refine wpAnyH_ready (rs:=[1,4]) (by kernel_rfl) (by simp) ?_;refine AllReadyH.cons rfl (fun K hK=> ?_) (AllReadyH.cons rfl (fun K hK=> ?_) AllReadyH.nil)
      ·
       have c15:=SQ.out.2.2.1.cell (j:=15) rfl;go_simp;refine hK.out _ _ ?_ (fun hHeld=> ?_)
       ·
        (try dsimp only); (try trivial)
       clear hK K;try simp only [ap]
       refine r1 4 (fun K hK=> ?_);go_simp;(go_at_call 18; refine (z1L g _ wd _ (by omega) (by omega) (by omega) SD.out.1.1).mono ?_; rintro e wc ⟨kx,kx0,kx1,rfl,hr9,hg9⟩);have SC:=hidden (SD.out.call hgw hg9 hr9);clear hr9 hg9;refine hK.out _ _ ?_ (fun hHeld=> ?_)
       ·
        (try dsimp only); (try trivial)
       clear hK K;try simp only [ap]
       refine r1 5 (fun K hK=> ?_);go_simp;have SK:=hidden (SC.out.below hgw (z1B (.cells #[.int .i64 kx] 3)));refine hK.out _ _ ?_ (fun hHeld=> ?_)
       ·
        (try dsimp only); (try trivial)
       clear hK K;try simp only [ap]
       refine r1 6 (fun K hK=> ?_);have hbs:=SK.out.2.1.2.1;refine q1I rfl (wp_append_own _ (.tmp 139) (.tmp 143) 28 rfl HI 3 i0 (.int .i64 0) 1 8 Tryz.underlying28 hi0 hz0 hz1 hz2 rfl (by decide) (.slice none 0 0) 0 [] (by simp [Act.eval]) SK.out.2.1.2.2.2.2 ⟨wc.heap.size,0,none⟩ 1 1 [.int .i64 kx] (by simp [Act.eval]) rfl (fun j u hj=>by match j,hj with | 0,hj=>simp at hj; subst hj; simp [Addr.add] | j+1,hj=>simp at hj) (fun u hu=>by simp at hu; rw [hu]; rfl) (by unfold maxLen; omega) (by omega) hbs ?_);intro vk' w6 hown6 hgrow6 _;obtain ⟨ub,ud,rfl⟩:=q1H hown6;obtain ⟨B6,R6,S6⟩:=SK.out.keys hgw hgrow6 [kx] hown6;have HS6:=hidden S6;have c15':=B6.cell (j:=15) rfl;have fz:=B6.frozen 15;clear hown6 hgrow6 S6 R6 hbs;refine hK.out _ _ ?_ (fun hHeld=> ?_)
       ·
        (try dsimp only); (try trivial)
       clear hK K;try simp only [ap]
       refine tk 7 ?_; simp only [ap];refine r1 8 (fun K hK=> ?_);go_simp;refine hK.out _ _ ?_ (fun hHeld=> ?_)
       ·
        (try dsimp only); (try trivial)
       clear hK K;try simp only [Act.put]
       refine dn ?_;clear hHeld B6 c15' fz;go_wp2_with fail;go_meet
       case rel=>exact ⟨rfl,[kx],_,by simp,HS6.out⟩
      ·
       go_simp;(go_at_call 18; refine (z1L g _ wd _ (by omega) (by omega) (by omega) SD.out.1.1).mono ?_; rintro e wc ⟨kx,kx0,kx1,rfl,hr9,hg9⟩);have SC:=hidden (SD.out.call hgw hg9 hr9);clear hr9 hg9;refine hK.out _ _ ?_ (fun hHeld=> ?_)
       ·
        (try dsimp only); (try trivial)
       clear hK K;try simp only [ap]
       refine wpAnyH_ready (rs:=[1,5]) (by kernel_rfl) (by simp) ?_;refine AllReadyH.cons rfl (fun K hK=> ?_) (AllReadyH.cons rfl (fun K hK=> ?_) AllReadyH.nil)
       ·
        have c15:=SC.out.2.2.1.cell (j:=15) rfl;go_simp;refine hK.out _ _ ?_ (fun hHeld=> ?_)
        ·
         (try dsimp only); (try trivial)
        clear hK K;try simp only [ap]
        refine r1 5 (fun K hK=> ?_);go_simp;have SK:=hidden (SC.out.below hgw (z1B (.cells #[.int .i64 kx] 3)));refine hK.out _ _ ?_ (fun hHeld=> ?_)
        ·
         (try dsimp only); (try trivial)
        clear hK K;try simp only [ap]
        refine r1 6 (fun K hK=> ?_);have hbs:=SK.out.2.1.2.1;refine q1I rfl (wp_append_own _ (.tmp 139) (.tmp 143) 28 rfl HI 3 i0 (.int .i64 0) 1 8 Tryz.underlying28 hi0 hz0 hz1 hz2 rfl (by decide) (.slice none 0 0) 0 [] (by simp [Act.eval]) SK.out.2.1.2.2.2.2 ⟨wc.heap.size,0,none⟩ 1 1 [.int .i64 kx] (by simp [Act.eval]) rfl (fun j u hj=>by match j,hj with | 0,hj=>simp at hj; subst hj; simp [Addr.add] | j+1,hj=>simp at hj) (fun u hu=>by simp at hu; rw [hu]; rfl) (by unfold maxLen; omega) (by omega) hbs ?_);intro vk' w6 hown6 hgrow6 _;obtain ⟨ub,ud,rfl⟩:=q1H hown6;obtain ⟨B6,R6,S6⟩:=SK.out.keys hgw hgrow6 [kx] hown6;have HS6:=hidden S6;have c15':=B6.cell (j:=15) rfl;have fz:=B6.frozen 15;clear hown6 hgrow6 S6 R6 hbs;refine hK.out _ _ ?_ (fun hHeld=> ?_)
        ·
         (try dsimp only); (try trivial)
        clear hK K;try simp only [ap]
        refine tk 7 ?_; simp only [ap];refine r1 8 (fun K hK=> ?_);go_simp;refine hK.out _ _ ?_ (fun hHeld=> ?_)
        ·
         (try dsimp only); (try trivial)
        clear hK K;try simp only [Act.put]
        refine dn ?_;clear hHeld B6 c15' fz;go_wp2_with fail;go_meet
        case rel=>exact ⟨rfl,[kx],_,by simp,HS6.out⟩
       ·
        go_simp;have SK:=hidden (SC.out.below hgw (z1B (.cells #[.int .i64 kx] 3)));refine hK.out _ _ ?_ (fun hHeld=> ?_)
        ·
         (try dsimp only); (try trivial)
        clear hK K;try simp only [ap]
        refine r1 1 (fun K hK=> ?_);have c15:=SC.out.2.2.1.cell (j:=15) rfl;have c15k:=SK.out.2.2.1.cell (j:=15) rfl;go_simp;refine hK.out _ _ ?_ (fun hHeld=> ?_)
        ·
         (try dsimp only); (try trivial)
        clear hK K;try simp only [ap]
        refine r1 6 (fun K hK=> ?_);have hbs:=SK.out.2.1.2.1;refine q1I rfl (wp_append_own _ (.tmp 139) (.tmp 143) 28 rfl HI 3 i0 (.int .i64 0) 1 8 Tryz.underlying28 hi0 hz0 hz1 hz2 rfl (by decide) (.slice none 0 0) 0 [] (by simp [Act.eval]) SK.out.2.1.2.2.2.2 ⟨wc.heap.size,0,none⟩ 1 1 [.int .i64 kx] (by simp [Act.eval]) rfl (fun j u hj=>by match j,hj with | 0,hj=>simp at hj; subst hj; simp [Addr.add] | j+1,hj=>simp at hj) (fun u hu=>by simp at hu; rw [hu]; rfl) (by unfold maxLen; omega) (by omega) hbs ?_);intro vk' w6 hown6 hgrow6 _;obtain ⟨ub,ud,rfl⟩:=q1H hown6;obtain ⟨B6,R6,S6⟩:=SK.out.keys hgw hgrow6 [kx] hown6;have HS6:=hidden S6;have c15':=B6.cell (j:=15) rfl;have fz:=B6.frozen 15;clear hown6 hgrow6 S6 R6 hbs;refine hK.out _ _ ?_ (fun hHeld=> ?_)
        ·
         (try dsimp only); (try trivial)
        clear hK K;try simp only [ap]
        refine tk 7 ?_; simp only [ap];refine r1 8 (fun K hK=> ?_);go_simp;refine hK.out _ _ ?_ (fun hHeld=> ?_)
        ·
         (try dsimp only); (try trivial)
        clear hK K;try simp only [Act.put]
        refine dn ?_;clear hHeld B6 c15' fz;go_wp2_with fail;go_meet
        case rel=>exact ⟨rfl,[kx],_,by simp,HS6.out⟩
     case rest=>
      obtain ⟨rfl,ks,vk,hkl,SR⟩:=hcut;clear SQ SD;obtain ⟨ua,uc,hvk⟩:=q1H SR.out.2.1.2.2.2.2;have hvk':vk = .slice ua ks.length uc:=hvk;subst hvk';have SE:=hidden (SR.out.below hgw (below_drewN (Below.refl _ _) 1));have hPb:=SE.out.2.2.2;have hwr7:IntKind.i64.wrap ((ks.length:Int)+1)=(ks.length:Int)+1:=by rw [wrap_small] <;> omega
      have HTH:Hid ((wc.drewN 1).there w.heap.size 0 (h19 7 0 (.slice none 0 0) 0 0 (.slice ua ks.length uc) ga gc (.slice (some ⟨Kb,0,none⟩) 1 1)).toArray.size):=SE.out.1.2.2.there;have hii:(Tryz.prog.info? 31).map (·.size)=some (h19 7 0 (.slice none 0 0) 0 0 (.slice ua ks.length uc) ga gc (.slice (some ⟨Kb,0,none⟩) 1 1)).toArray.size:=by kernel_rfl
      have H1:Hid ((h19 7 0 (.slice none 0 0) 0 0 (.slice ua ks.length uc) ga gc (.slice (some ⟨Kb,0,none⟩) 1 1)).toArray.all (·.oneCell')=true):=j1W (⟨7,0,⟨0,false,⟨0,0,0,0⟩,⟨0,0,0,0⟩⟩,[],0,0,ks,ga,gc⟩:Nd) (.slice none 0 0) (.slice ua ks.length uc) (.slice (some ⟨Kb,0,none⟩) 1 1) rfl rfl rfl;clear SR hvk;go_wp2_with fail;refine wp_region_held_drew (S:=(fun X:World=>X.rangeAt Pb 0 (h19 7 0 (.slice none 0 0) 0 0 (.slice ua ks.length uc) ga gc (.slice (some ⟨Kb,0,none⟩) 1 1))/\X.cell? ⟨Pb,15,none⟩=some (.slice ua ks.length uc))) (by kernel_rfl) ?_ (fun hHeld=> ?_)
      ·
       (try dsimp only); exact ⟨SE.out.2.2.1.range,SE.out.2.2.1.cell (j:=15) rfl⟩
      refine tl 0 (v:=.agg (h19 7 0 (.slice none 0 0) 0 0 (.slice ua ks.length uc) ga gc (.slice (some ⟨Kb,0,none⟩) 1 1)).toArray) rfl (yieldsIf_load_mid (by rfl) 31 _ rfl Pb 0 rfl (h19 7 0 (.slice none 0 0) 0 0 (.slice ua ks.length uc) ga gc (.slice (some ⟨Kb,0,none⟩) 1 1)) _ (fun x h=>h.1) Tryz.underlying31 rfl (j2I (⟨7,0,⟨0,false,⟨0,0,0,0⟩,⟨0,0,0,0⟩⟩,[],0,0,ks,ga,gc⟩:Nd) (.slice none 0 0) (.slice ua ks.length uc) (.slice (some ⟨Kb,0,none⟩) 1 1))) ?_;simp only [ap];refine tk 1 ?_; simp only [ap];refine tk 2 ?_; simp only [ap];refine tk 3 ?_; simp only [ap];refine tk 4 ?_; simp only [ap];refine r1 5 (fun K hK=> ?_);refine q1I rfl (wp_store_mid 31 (.tmp 4) (.tmp 146) rfl w.heap.size 0 (h19 7 0 (.slice none 0 0) 0 0 (.slice ua ks.length uc) ga gc (.slice (some ⟨Kb,0,none⟩) 1 1)).toArray (by simp [Act.eval]) (by simp [Act.eval]) HTH.out hii H1.out ?_);generalize hW9:World.setCells _ _ _ _=W9;refine hK.out _ _ ?_ (fun hHeld=> ?_)
      ·
       (try dsimp only); exact ⟨(SE.out.2.2.1.past (by omega) hW9).range,(SE.out.2.2.1.past (by omega) hW9).cell (j:=15) rfl⟩
      clear hK K;try simp only [Act.put]
      refine tk 6 ?_; simp only [ap];refine dn ?_;have HF:=hidden (StR.told (P':=P+1000*T) SE.out.1 hgw SE.out.done (by omega) hW9);have HSZ:Hid (Pl.sz (m+1+1) (Pl.mk (⟨7,0,⟨0,false,⟨0,0,0,0⟩,⟨0,0,0,0⟩⟩,[],0,0,ks,ga,gc⟩:Nd) [a]:Pl (m+1+1))<=10*T):=(by show _<=_; rw [<-hTT]; exact v3U _ a (by simp) (by simpa using hkl) HZA.out hT1');clear hHeld;go_wp2_with fail;refine bodyPost_ret (v:=.tuple #[.agg (h19 7 0 (.slice none 0 0) 0 0 (.slice ua ks.length uc) ga gc (.slice (some ⟨Kb,0,none⟩) 1 1)).toArray,.int .i64 ((ks.length:Int)+1)]) (q1P (a:=4) (b:=5) (t:=31) (ad:=⟨w.heap.size,0,none⟩) Tryz.results50 (by simp [Act.put]) (by simp [Act.put]) (j1K HF.out.1)) (by simp [Act.put]) ?_;exact ⟨(Pl.mk (⟨7,0,⟨0,false,⟨0,0,0,0⟩,⟨0,0,0,0⟩⟩,[],0,0,ks,ga,gc⟩:Nd) [a]:Pl (m+1+1)),(.slice none 0 0),(.slice ua ks.length uc),(.slice (some ⟨Kb,0,none⟩) 1 1),((ks.length:Int)+1),rfl,by omega,by omega,HSZ.out,HF.out.2.2.2,HF.out.2.1,HF.out.2.2.1⟩
    ·
     have hq4':q4<=0:=by omega
     obtain ⟨ks,vk,hkl,SR⟩:∃ (ks:List Int) (vk:Value),ks.length<=1/\Hid (StP w w8 g (P+1+1000*T'+1+1+1+1+1) HI Pb (m+1) (Pl.mk (⟨7,0,⟨0,false,⟨0,0,0,0⟩,⟨0,0,0,0⟩⟩,[],0,0,ks,ga,gc⟩:Nd) [a]) (.slice none 0 0) vk (.slice (some ⟨Kb,0,none⟩) 1 1)):=⟨[],.slice none 0 0,by simp,⟨SQ.out.1.le (by omega),SQ.out.2⟩⟩;clear SQ;obtain ⟨ua,uc,hvk⟩:=q1H SR.out.2.1.2.2.2.2;have hvk':vk = .slice ua ks.length uc:=hvk;subst hvk';have SE:=hidden (SR.out.below hgw (below_drewN (Below.refl _ _) 1));have hPb:=SE.out.2.2.2;have hwr7:IntKind.i64.wrap ((ks.length:Int)+1)=(ks.length:Int)+1:=by rw [wrap_small] <;> omega
     have HTH:Hid ((w8.drewN 1).there w.heap.size 0 (h19 7 0 (.slice none 0 0) 0 0 (.slice ua ks.length uc) ga gc (.slice (some ⟨Kb,0,none⟩) 1 1)).toArray.size):=SE.out.1.2.2.there;have hii:(Tryz.prog.info? 31).map (·.size)=some (h19 7 0 (.slice none 0 0) 0 0 (.slice ua ks.length uc) ga gc (.slice (some ⟨Kb,0,none⟩) 1 1)).toArray.size:=by kernel_rfl
     have H1:Hid ((h19 7 0 (.slice none 0 0) 0 0 (.slice ua ks.length uc) ga gc (.slice (some ⟨Kb,0,none⟩) 1 1)).toArray.all (·.oneCell')=true):=j1W (⟨7,0,⟨0,false,⟨0,0,0,0⟩,⟨0,0,0,0⟩⟩,[],0,0,ks,ga,gc⟩:Nd) (.slice none 0 0) (.slice ua ks.length uc) (.slice (some ⟨Kb,0,none⟩) 1 1) rfl rfl rfl;clear SR hvk;go_wp2_with fail;refine wp_region_held_drew (S:=(fun X:World=>X.rangeAt Pb 0 (h19 7 0 (.slice none 0 0) 0 0 (.slice ua ks.length uc) ga gc (.slice (some ⟨Kb,0,none⟩) 1 1))/\X.cell? ⟨Pb,15,none⟩=some (.slice ua ks.length uc))) (by kernel_rfl) ?_ (fun hHeld=> ?_)
     ·
      (try dsimp only); exact ⟨SE.out.2.2.1.range,SE.out.2.2.1.cell (j:=15) rfl⟩
     refine tl 0 (v:=.agg (h19 7 0 (.slice none 0 0) 0 0 (.slice ua ks.length uc) ga gc (.slice (some ⟨Kb,0,none⟩) 1 1)).toArray) rfl (yieldsIf_load_mid (by rfl) 31 _ rfl Pb 0 rfl (h19 7 0 (.slice none 0 0) 0 0 (.slice ua ks.length uc) ga gc (.slice (some ⟨Kb,0,none⟩) 1 1)) _ (fun x h=>h.1) Tryz.underlying31 rfl (j2I (⟨7,0,⟨0,false,⟨0,0,0,0⟩,⟨0,0,0,0⟩⟩,[],0,0,ks,ga,gc⟩:Nd) (.slice none 0 0) (.slice ua ks.length uc) (.slice (some ⟨Kb,0,none⟩) 1 1))) ?_;simp only [ap];refine tk 1 ?_; simp only [ap];refine tk 2 ?_; simp only [ap];refine tk 3 ?_; simp only [ap];refine tk 4 ?_; simp only [ap];refine r1 5 (fun K hK=> ?_);refine q1I rfl (wp_store_mid 31 (.tmp 4) (.tmp 146) rfl w.heap.size 0 (h19 7 0 (.slice none 0 0) 0 0 (.slice ua ks.length uc) ga gc (.slice (some ⟨Kb,0,none⟩) 1 1)).toArray (by simp [Act.eval]) (by simp [Act.eval]) HTH.out hii H1.out ?_);generalize hW9:World.setCells _ _ _ _=W9;refine hK.out _ _ ?_ (fun hHeld=> ?_)
     ·
      (try dsimp only); exact ⟨(SE.out.2.2.1.past (by omega) hW9).range,(SE.out.2.2.1.past (by omega) hW9).cell (j:=15) rfl⟩
     clear hK K;try simp only [Act.put]
     refine tk 6 ?_; simp only [ap];refine dn ?_;have HF:=hidden (StR.told (P':=P+1000*T) SE.out.1 hgw SE.out.done (by omega) hW9);have HSZ:Hid (Pl.sz (m+1+1) (Pl.mk (⟨7,0,⟨0,false,⟨0,0,0,0⟩,⟨0,0,0,0⟩⟩,[],0,0,ks,ga,gc⟩:Nd) [a]:Pl (m+1+1))<=10*T):=(by show _<=_; rw [<-hTT]; exact v3U _ a (by simp) (by simpa using hkl) HZA.out hT1');clear hHeld;go_wp2_with fail;refine bodyPost_ret (v:=.tuple #[.agg (h19 7 0 (.slice none 0 0) 0 0 (.slice ua ks.length uc) ga gc (.slice (some ⟨Kb,0,none⟩) 1 1)).toArray,.int .i64 ((ks.length:Int)+1)]) (q1P (a:=4) (b:=5) (t:=31) (ad:=⟨w.heap.size,0,none⟩) Tryz.results50 (by simp [Act.put]) (by simp [Act.put]) (j1K HF.out.1)) (by simp [Act.put]) ?_;exact ⟨(Pl.mk (⟨7,0,⟨0,false,⟨0,0,0,0⟩,⟨0,0,0,0⟩⟩,[],0,0,ks,ga,gc⟩:Nd) [a]:Pl (m+1+1)),(.slice none 0 0),(.slice ua ks.length uc),(.slice (some ⟨Kb,0,none⟩) 1 1),((ks.length:Int)+1),rfl,by omega,by omega,HSZ.out,HF.out.2.2.2,HF.out.2.1,HF.out.2.2.1⟩
theorem k3C (hCP:∀ m,v4B m):∀ n,z5N n:=by
 intro n;induction n with
 | zero=>exact j3T hCP 0 (fun m h=>by cases h)
 | succ n ih=>exact j3T hCP (n+1) (fun m h=>by cases h; exact ih)
end Go.Proofs.YtmjaepdplbgohaaGreatDoor.Kd
