/- Part of the proof of laws.FnMean: LawMean, LaidMean. -/
import Derived.Test.YtmjaepdplbgohaaGreatDoorPkT
import Derived.Test.YtmjaepdplbgohaaGreatDoorPkO
import Derived.Test.YtmjaepdplbgohaaGreatDoorPkN
import Derived.Test.YtmjaepdplbgohaaGreatDoorPkA
import Derived.Test.YtmjaepdplbgohaaGreatDoorPkC
import Derived.Stop.LaidErr
set_option maxRecDepth 100000
set_option maxHeartbeats 16000000
set_option linter.unusedVariables false
set_option linter.unusedSimpArgs false
namespace Go.Proofs.YtmjaepdplbgohaaGreatDoor.Kd
open Go.RowKit Go.Shelf
attribute [local go_sem ↓] Go.wp_at_zero Go.wp_at_succ
def LSt (w X:World) (B:Nat) {n:Nat} (p:Pl (n+1)) (ca:Option Addr) (cc:Nat) (ka:Option Addr) (kc:Nat) (da:Option Addr) (dc:Nat) (tb:Nat) (t0 t1:List It) (ps pn:Addr):Prop:=
 Below w.heap.size w X/\q1X (NodeAt n) X p.nd p.kids (.slice ca p.nd.cs.length cc) (.slice ka p.nd.ks.length kc) (.slice da p.kids.length dc)/\x1P X B (p19 p ca cc ka kc da dc)/\ZssAt X (.slice (some ⟨tb,0,none⟩) 2 2) [t0,t1]/\v1J X ps/\NoPlan X pn/\Tab X
theorem LSt.below {w X Y:World} {B n:Nat} {p:Pl (n+1)} {ca ka da:Option Addr} {cc kc dc tb:Nat} {t0 t1:List It} {ps pn:Addr} (h:LSt w X B p ca cc ka kc da dc tb t0 t1 ps pn) (hb:Below X.heap.size X Y):LSt w Y B p ca cc ka kc da dc tb t0 t1 ps pn:=
 ⟨z1A h.1 hb,h.2.1.below hb fun b o x h=>NodeAt.below n h hb,h.2.2.1.grown (q1F hb none) (fun e=>by cases e),h.2.2.2.1.below hb,h.2.2.2.2.1.below hb,h.2.2.2.2.2.1.below hb,h.2.2.2.2.2.2.below hb⟩
def mT (t0 t1:List It) {n:Nat} (p:Pl n):Told:=j3M (fun t=>t.okB 6) (fun c=>c.okB 6) (fun ks=>v1N ks 6) (j1V [t0,t1] j1X v2Y v1W v2Z v2L j1Y) 2 n p
def canP {n:Nat} (p:Pl n):Bool:=q3V (fun t=>t.okB 6) (fun c=>c.okB 6) (fun ks=>v1N ks 6) n p
theorem mT_cases (t0 t1:List It) {n:Nat} (p:Pl n):mT t0 t1 p=(false,[])\/∃ z,mT t0 t1 p=(true,z)/\canP p=true/\x1I (j1V [t0,t1] j1X v2Y v1W v2Z v2L j1Y) n p=some z:=by
 unfold mT j3M;by_cases hc:canP p=true
 ·
  rw [if_pos ⟨hc,by decide⟩];cases hm:x1I (j1V [t0,t1] j1X v2Y v1W v2Z v2L j1Y) n p with
  | none=>exact .inl rfl
  | some z=>exact .inr ⟨z,rfl,hc,rfl⟩
 ·
  rw [if_neg (fun h=>hc h.1)]; exact .inl rfl
theorem mT_some {t0 t1:List It} {n:Nat} {p:Pl n} {z:List It} (hc:canP p=true) (hm:x1I (j1V [t0,t1] j1X v2Y v1W v2Z v2L j1Y) n p=some z):mT t0 t1 p=(true,z):=by
 unfold mT j3M;rw [if_pos ⟨hc,by decide⟩,hm]; rfl
theorem small_of {t0 t1:List It} (h0:x2N t0) (h1:x2N t1):v2W [t0,t1]:=by
 have hg:∀ t:List It,x2N t->t.length<=1048576/\∀ k,k<t.length->(t.getD k ([],0)).1.length<=8796093022208:=fun t h=>
  ⟨by have:=h.1; omega,fun k hk=>by have:=(h.2 _ (by simp [List.getD,hk]:t.getD k ([],0)∈t)).1; omega⟩
 intro j hj;match j,hj with
 | 0,_=>exact hg t0 h0
 | 1,_=>exact hg t1 h1
 | j+2,hj=>simp at hj; omega
theorem oneO {w:World} {p:Addr} (hs:v1J w p):z3C w (fun t=>t.okB 6) (fun c=>c.okB 6) (fun ks=>v1N ks 6):=⟨(v4F hs).1 6,(v4F hs).2.1 6,(v4F hs).2.2 6⟩
theorem implM {X:World} {n:Nat} {p:Pl (n+1)} {ca ka da:Option Addr} {cc kc dc tb:Nat} {t0 t1:List It} {ps pn:Addr} (hp:q1X (NodeAt n) X p.nd p.kids (.slice ca p.nd.cs.length cc) (.slice ka p.nd.ks.length kc) (.slice da p.kids.length dc)) (ht:ZssAt X (.slice (some ⟨tb,0,none⟩) 2 2) [t0,t1]) (hs:v1J X ps) (hN:NoPlan X pn) (hT:Tab X) (hn:n<=9) (hz:Pl.sz (n+1) p<=1048576) :
  Calls Tryz.prog 5 #[.agg (p19 p ca cc ka kc da dc).toArray,.slice (some ⟨tb,0,none⟩) 2 2] X (v1A X (mT t0 t1 p)):=
 x4N n p ca ka da cc kc dc X hp hz (by omega) pn hN _ _ _ (oneO hs) _ _ _ _ ht _ _ _ _ _ _ (q6M hs hT) fk_bad
theorem LSt.mean {w X:World} {B n:Nat} {p:Pl (n+1)} {ca ka da:Option Addr} {cc kc dc tb:Nat} {t0 t1:List It} {ps pn:Addr} (h:LSt w X B p ca cc ka kc da dc tb t0 t1 ps pn) (hn:n<=9) (hz:Pl.sz (n+1) p<=300) :
  Calls Tryz.prog 5 #[.agg (p19 p ca cc ka kc da dc).toArray,.slice (some ⟨tb,0,none⟩) 2 2] X (v1A X (mT t0 t1 p)):=implM h.2.1 h.2.2.2.1 h.2.2.2.2.1 h.2.2.2.2.2.1 h.2.2.2.2.2.2 hn (by omega)
theorem LSt.spec {w X:World} {B n:Nat} {p:Pl (n+1)} {ca ka da:Option Addr} {cc kc dc tb:Nat} {t0 t1:List It} {ps pn:Addr} (h:LSt w X B p ca cc ka kc da dc tb t0 t1 ps pn) (hz:Pl.sz (n+1) p<=300) (h0:x2N t0) (h1:x2N t1) :
  Calls Tryz.prog 6 #[.agg (p19 p ca cc ka kc da dc).toArray,.slice (some ⟨tb,0,none⟩) 2 2] X (v1A X (mT t0 t1 p)):=
 j4B n p ca ka da cc kc dc X h.2.1 (by omega) _ _ _ (sOracle X) _ _ _ _ h.2.2.2.1 (small_of h0 h1) _ _ _ _ _ _ (smOracle X) fk_bad
theorem LSt.wide {w X:World} {B n:Nat} {p:Pl (n+1)} {ca ka da:Option Addr} {cc kc dc tb:Nat} {t0 t1:List It} {ps pn:Addr} (h:LSt w X B p ca cc ka kc da dc tb t0 t1 ps pn) (hn:n<=9) (hz:Pl.sz (n+1) p<=300) (hc:canP p=true) :
  Calls Tryz.prog 14 #[.agg (p19 p ca cc ka kc da dc).toArray,.slice (some ⟨X.heap.size,0,none⟩) 2 2] (X.alloc (.cells #[.int .i64 2,.int .i64 2] 3)) fun e w'=> ∃ wd:Int,e = .returned (.int .i64 wd)/\(0<wd->wd=wdM (n+1) p/\sameW (n+1) p)/\Below X.heap.size X w':=by
 have hb:=z1B (w:=X) (.cells #[.int .i64 2,.int .i64 2] 3);have h':=h.below hb;have hcell:∀ j,j<2->(X.alloc (.cells #[.int .i64 2,.int .i64 2] 3)).cell? ⟨X.heap.size,0+j,none⟩=some (.int .i64 2):=fun j hj=>by
  match j,hj with
  | 0,_=>simp
  | 1,_=>simp
 refine (j4O n p ca ka da cc kc dc _ h'.2.1 (by omega) (by omega) pn h'.2.2.2.2.2.1 _ _ _ (oneO h'.2.2.2.2.1) hc _ 2 2 (by decide) (x4C _ pn h'.2.2.2.2.2.1 X.heap.size 0 2 2 (by simp) hcell _ _ _ (v4F h'.2.2.2.2.1))).mono ?_;rintro e w' (⟨rfl,h1,h2⟩ | ⟨rfl,h2⟩)
 ·
  exact ⟨_,rfl,fun _=>⟨rfl,h1.2.2⟩,z1A hb h2⟩
 ·
  exact ⟨_,rfl,fun h=>by omega,z1A hb h2⟩
theorem q1Y.atL {w:World} {a:Option Addr} {n cap:Nat} {zs:List It} (h:q1Y w (.slice a n cap) zs) {k:Nat} (hk:k<zs.length) :
  n=zs.length/\∃ b off xa xc,a=some ⟨b,off,none⟩/\b<w.heap.size/\w.cell? ⟨b,off+k*2,none⟩=some (.slice xa (zs.getD k ([],0)).1.length xc):=by
 obtain ⟨_,a',c',e,_,hc⟩:=h.items;obtain ⟨b,off,rfl,hb,hcell⟩:=hc (fun e=>by rw [e] at hk; simp at hk);obtain ⟨rv,c0,c1,⟨_,xa,xc,rfl,_⟩⟩:=hcell k hk;simp at e;exact ⟨e.2.1,b,off,xa,xc,e.1,hb,c0⟩
theorem LSt.tabs {w X:World} {B n:Nat} {p:Pl (n+1)} {ca ka da:Option Addr} {cc kc dc tb:Nat} {t0 t1:List It} {ps pn:Addr} (h:LSt w X B p ca cc ka kc da dc tb t0 t1 ps pn) :
  ∃ (x0a:Option Addr) (x0n x0c:Nat) (x1a:Option Addr) (x1n x1c:Nat),tb<X.heap.size/\X.cell? ⟨tb,0,none⟩=some (.slice x0a x0n x0c)/\X.cell? ⟨tb,1,none⟩=some (.slice x1a x1n x1c)/\q1Y X (.slice x0a x0n x0c) t0/\q1Y X (.slice x1a x1n x1c) t1:=by
 obtain ⟨-,b,o,ra,rn,rc,e,hb,h0,h1⟩:=x1H h.2.2.2.1 (j:=0) (by simp);obtain ⟨-,b',o',ra',rn',rc',e',hb',h0',h1'⟩:=x1H h.2.2.2.1 (j:=1) (by simp);simp only [Option.some.injEq,Addr.mk.injEq,and_true] at e e';obtain ⟨rfl,rfl⟩:=e;obtain ⟨rfl,rfl⟩:=e';exact ⟨ra,rn,rc,ra',rn',rc',hb,h0,h0',h1,h1'⟩
theorem k5E {t0 t1:List It} (hone:q1G t0=true->q2J t0) (htwo:∀ x∈t1,x.1.length=2) {n:Nat} {p:Pl (n+1)} {z:List It} (hc:canP p=true) (hm:x1I (j1V [t0,t1] j1X v2Y v1W v2Z v2L j1Y) (n+1) p=some z) (hs:sameW (n+1) p) (h0:t0.length=0\/(t0.getD 0 ([],0)).1.length=2) {k:Nat} (hk:k<z.length):((z.getD k ([],0)).1.length:Int)=wdM (n+1) p:=by
 have hf:v1P (fun t:Tst=>t.okB 6) (fun c:Cel=>c.okB 6) (fun ks=>v1N ks 6) (n+1) p 6=true:=by
  unfold canP q3V at hc; rw [Bool.and_eq_true] at hc; exact hc.1
 refine q6E (ts:=[t0,t1]) (fun j hj q hq=> ?_) _ _ _ (n+1) p 6 z hf hs hm _ (by simp [List.getD,hk]);match j,hj,hq with
 | 0,hj,hq=>
  obtain ⟨m,hm⟩:=hone hj;have hq':q∈t0:=hq;have hp:0<t0.length:=List.length_pos_of_mem hq';rw [hm q hq',<-hm (t0.getD 0 ([],0)) (by simp [List.getD,hp])];rcases h0 with h0 | h0
  ·
   omega
  ·
   exact h0
 | 1,hj,hq=>exact htwo q hq
 | j+2,hj,hq=>simp at hq
theorem LSt.new {w w1 W:World} {n:Nat} {p:Pl (n+1)} {ca ka da:Option Addr} {cc kc dc tb:Nat} {t0 t1:List It} {ps pn:Addr} (hb:Below w.heap.size w w1) (hp:q1X (NodeAt n) w1 p.nd p.kids (.slice ca p.nd.cs.length cc) (.slice ka p.nd.ks.length kc) (.slice da p.kids.length dc)) (hs:v1J w ps) (hN:NoPlan w pn) (hT:Tab w) (ht:ZssAt w1 (.slice (some ⟨tb,0,none⟩) 2 2) [t0,t1]) (hW:(w1.alloc (.cells z19.toArray 31)).setCells w1.heap.size 0 (p19 p ca cc ka kc da dc)=W) :
  LSt w W w1.heap.size p ca cc ka kc da dc tb t0 t1 ps pn:=by
 have hb1:Below w1.heap.size w1 W:=by
  subst hW;exact (z1B _).grown (q1M _ _ 0 _) (by simp) (fun b hb=>by simp only [Option.some.injEq] at hb; omega)
 have hbx:x1P W w1.heap.size (p19 p ca cc ka kc da dc):=by subst hW; exact (z1X w1 z19 rfl).put _ rfl
 exact ⟨z1A hb hb1,hp.below hb1 fun b o x h=>NodeAt.below n h hb1,hbx,ht.below hb1,(hs.below hb).below hb1,(hN.below hb).below hb1,(hT.below hb).below hb1⟩
theorem lawMean (a:Option Addr) (len cap:Nat) (bs:List Int) (w:World) (h:z5P .u8 w a len cap bs) (ps pn:Addr) (hs:v1J w ps) (hN:NoPlan w pn) (hT:Tab w) :
  Calls Tryz.prog 3 #[.slice a len cap] w fun e w'=>e = .returned (.bool true)/\Below w.heap.size w w':=by
 by_cases hbig:(1048576:Int)<(len:Int)
 ·
  go_enter Tryz.func3,Tryz.ntmps3;go_wp2;go_ret;exact ⟨rfl,Below.refl _ _⟩
 have HS:=hidden hs;have HNP:=hidden hN;have HTB:=hidden hT;clear hs hN hT;go_enter Tryz.func3,Tryz.ntmps3;go_wp2_with fail;refine (v3P a len cap bs _ h).mono ?_;rintro e w1 ⟨n,p,vc,vk,vd,tb,rfl,hn9,hsz,hpp,hb1,t0,t1,hts,hg0,hg1,hone,htwo⟩;obtain ⟨⟨_,ca,cc,rfl,_⟩,⟨_,ka,kc,rfl,_⟩,⟨_,da,dc,rfl,_⟩⟩:=id hpp;clear h hbig;have HTH:Hid ((w1.alloc (.cells o19.toArray 31)).there w1.heap.size 0 (p19 p ca cc ka kc da dc).toArray.size):=(z1X w1 z19 rfl).there;have hii:(Tryz.prog.info? 31).map (·.size)=some (p19 p ca cc ka kc da dc).toArray.size:=by kernel_rfl
 have hla:(Tryz.prog.info? 31).map (·.size)=some (p19 p ca cc ka kc da dc).length:=by kernel_rfl
 have H1:Hid ((p19 p ca cc ka kc da dc).toArray.all (·.oneCell')=true):=j1W p.nd _ _ _ rfl rfl rfl;rcases mT_cases t0 t1 p with hm | ⟨z,hm,hcan,hmm⟩
 ·
  clear hone htwo;go_wp2_with (first | ((with_reducible refine wpList_store_mid rfl 31 (.tmp 3) (.tmp 23) rfl w1.heap.size 0 (p19 p ca cc ka kc da dc).toArray ?_ ?_ HTH.out hii H1.out ?_); rfl; rfl; generalize hW9:World.setCells _ _ _ _=W9; have HL:=hidden (LSt.new hb1 hpp HS.out HNP.out HTB.out hts hW9); have HR9:=hidden HL.out.2.2.1.range) | refine wpList_load_mid rfl 31 _ rfl w1.heap.size 0 rfl _ _ HR9.out Tryz.underlying31 rfl hla ?_ | refine wpList_load_mid rfl 31 _ rfl w1.heap.size 0 rfl _ _ HR2.out Tryz.underlying31 rfl hla ?_ | (go_at_call 5; refine (HL.out.mean hn9 hsz).mono ?_; rw [hm]; rintro e w2 ⟨v2,rfl,O2,hb2⟩; obtain ⟨za,zn,zc,rfl⟩:=j1Q O2; have HL2:=hidden (HL.out.below hb2); have HR2:=hidden HL2.out.2.2.1.range; have HO2:=hidden O2; clear O2 hb2) | (go_at_call 6; refine (HL2.out.spec hsz hg0 hg1).mono ?_; rw [hm]; rintro e w3 ⟨v3,rfl,O3,hb3⟩; obtain ⟨ya,yn,yc,rfl⟩:=j1Q O3; have HL3:=hidden (HL2.out.below hb3); have HZ3:=hidden (HO2.out.tail.below hb3); have HY3:=hidden O3.tail; clear O3 hb3) | (go_at_call 7; refine (z2C _ _ _ _ _ HZ3.out.items HY3.out.items).mono ?_; rw [q3M]; rintro e w4 ⟨rfl,hb4⟩; have HL4:=hidden (HL3.out.below hb4); have HZ4:=hidden (HZ3.out.below hb4); clear hb4));have hz0:zn=0:=by obtain ⟨_,a',c',e,_⟩:=HZ4.out.items; simp at e; exact e.2.1
  subst hz0;go_wp2_with fail;go_ret;exact ⟨rfl,HL4.out.1⟩
 obtain ⟨zss,hks,hfk,hzok⟩:=x5S hmm;have HKS:=hidden hks;have HFK:=hidden hfk;have HMM:=hidden hmm;have HONE:=hidden hone;have HTWO:=hidden htwo;clear hks hfk hmm hone htwo;obtain ⟨i0,hi,hz0,hz1,hz2⟩:=info_parts infoRun;go_wp2_with (first | ((with_reducible refine wpList_store_mid rfl 31 (.tmp 3) (.tmp 23) rfl w1.heap.size 0 (p19 p ca cc ka kc da dc).toArray ?_ ?_ HTH.out hii H1.out ?_); rfl; rfl; generalize hW9:World.setCells _ _ _ _=W9; have HL:=hidden (LSt.new hb1 hpp HS.out HNP.out HTB.out hts hW9); have HR9:=hidden HL.out.2.2.1.range) | refine wpList_load_mid rfl 31 _ rfl w1.heap.size 0 rfl _ _ HR9.out Tryz.underlying31 rfl hla ?_ | refine wpList_load_mid rfl 31 _ rfl w1.heap.size 0 rfl _ _ HR2.out Tryz.underlying31 rfl hla ?_ | (go_at_call 5; refine (HL.out.mean hn9 hsz).mono ?_; rw [hm]; rintro e w2 ⟨v2,rfl,O2,hb2⟩; obtain ⟨za,zn,zc,rfl⟩:=j1Q O2; have HL2:=hidden (HL.out.below hb2); have HR2:=hidden HL2.out.2.2.1.range; have HO2:=hidden O2; clear O2 hb2) | (go_at_call 6; refine (HL2.out.spec hsz hg0 hg1).mono ?_; rw [hm]; rintro e w3 ⟨v3,rfl,O3,hb3⟩; obtain ⟨ya,yn,yc,rfl⟩:=j1Q O3; have HL3:=hidden (HL2.out.below hb3); have HZ3:=hidden (HO2.out.tail.below hb3); have HY3:=hidden O3.tail; clear O3 hb3) | (go_at_call 7; refine (z2C _ _ _ _ _ HZ3.out.items HY3.out.items).mono ?_; rw [q3M]; rintro e w4 ⟨rfl,hb4⟩; have HL4:=hidden (HL3.out.below hb4); have HZ4:=hidden (HZ3.out.below hb4); clear hb4));have hszp:=Pl.sz_succ p;have hln:p.kids.length<=300:=by omega
 have HKD:=hidden HL4.out.2.1.2.2;have HBX:=hidden HL4.out.2.2.1.1;have HO2:Hid (x1G (w4.alloc (.cells #[] 35)) w4.heap.size (.slice (some ⟨w4.heap.size,0,none⟩) 0 0) []):=x1G.lit (Nat.le_refl _);generalize hB:w1.heap.size=B at HL4 HBX ⊢;clear hB HTH H1 hii;go_loopw [9,10] (fun kv i wr=> ∃ (k:Nat) (kzs:List (List It)) (qa:Option Addr) (qc:Nat),k<=p.kids.length/\i = .int .i64 k/\kv = .slice qa k qc/\Hid (x1G wr w4.heap.size (.slice qa k qc) kzs)/\Hid ((p.kids.take k).mapM (x1I (j1V [t0,t1] j1X v2Y v1W v2Z v2L j1Y) n)=some kzs)/\Hid (Below w4.heap.size w4 wr)) (fun _ i _=>p.kids.length - (intOf i).toNat)
 case atStart=>exact ⟨0,[],_,0,Nat.zero_le _,rfl,rfl,by show x1G _ _ _ _; simpa using HO2.out,rfl,z1B _⟩
 case round=>
  obtain ⟨k,kzs,qa,qc,hk,rfl,rfl,HO,HMK,HWR⟩:=hrel;clear HO2;have hbw:=HWR.out;have hbox:=z1F HBX.out hbw;have hcel:=cell_at (j:=18) hbox rfl;by_cases hlt:k<p.kids.length
  ·
   have hltI:(k:Int)<(p.kids.length:Int):=by omega
   cases n with
   | zero=>cases p.kids[k]
   | succ m=>
   obtain ⟨_,a0,cap0,heq,-,hcs⟩:=id HKD.out;obtain ⟨kb,ko,rfl,hkb,hnode⟩:=hcs (fun h=>by rw [h] at hlt; exact absurd hlt (Nat.not_lt_zero _));obtain ⟨rfl,-,rfl⟩:da=some ⟨kb,ko,none⟩/\True/\dc=cap0:=by simpa using heq
   obtain ⟨x,HX⟩:∃ x,Hid (x=p.kids[k]):=⟨p.kids[k],Eq.refl p.kids[k]⟩;have hnd:=hnode k hlt;rw [<-HX.out] at hnd;obtain ⟨_,xc,xk,xv,hfl,hpr⟩:=hnd;obtain ⟨_,xa,xd,rfl,_⟩:=id hpr.2.2;obtain ⟨_,xca,xcc,rfl,_⟩:=id hpr.1;obtain ⟨_,xka,xkc,rfl,_⟩:=id hpr.2.1;have HRX:Hid (wr.rangeAt kb (ko+k*19) (p19 x xca xcc xka xkc xa xd)):=fun j v hv=>(hbw.cell (p:=⟨kb,ko+k*19+j,none⟩) hkb).trans (hfl.range j v hv);have hlx:(Tryz.prog.info? 31).map (·.size)=some ((p19 x xca xcc xka xkc xa xd):List Value).length:=by kernel_rfl
   have hszx:Pl.sz (m+1) x<=1048576:=by
    have h1:=k1B hlt;rw [<-HX.out] at h1;unfold k1X at h1;omega
   obtain ⟨zx,hzx⟩:∃ zx,zss[k]? = some zx:=⟨_,List.getElem?_eq_getElem (by rw [z2B _ _ _ HKS.out]; exact hlt)⟩;have hmx:x1I (j1V [t0,t1] j1X v2Y v1W v2Z v2L j1Y) (m+1) x=some zx:=q5O _ _ _ HKS.out k x zx (by rw [HX.out]; exact List.getElem?_eq_getElem hlt) hzx;have hcx:canP x=true:=canW_kid hcan (by rw [HX.out]; exact List.getElem_mem hlt);have hx:=mT_some hcx hmx;have hLw:=HL4.out.below hbw;have HIX:=hidden (implM (hpr.below hbw fun b o y h=>NodeAt.below m h hbw) hLw.2.2.2.1 hLw.2.2.2.2.1 hLw.2.2.2.2.2.1 hLw.2.2.2.2.2.2 (by omega) hszx);have hmt:=j3O (x1I (j1V [t0,t1] j1X v2Y v1W v2Z v2L j1Y) (m+1)) p.kids k hlt kzs HMK.out;rw [<-HX.out,hmx] at hmt;have HMT:=hidden hmt;obtain ⟨us,hrow,hown⟩:=HO.out;have hzl:kzs.length=k:=by rw [z2B _ _ _ HMK.out,List.length_take]; omega
   have HROW:Hid (wr.ownsRow w4.heap.size 35 1 (.slice qa k qc) k us):=by have h:=hrow; rw [hzl] at h; exact h
   have HOWN:=hidden hown;have HZL:=hidden hzl;clear hnode hcs heq hfl hpr hrow HKD hmt hown hzl hzx hmx hcx hLw;go_wp2_with (first | refine wpList_load_mid rfl 31 _ rfl kb (ko+k*19) rfl _ _ HRX.out Tryz.underlying31 rfl hlx ?_ | (go_at_call 5; refine HIX.out.mono ?_; rw [hx]; rintro e W4 ⟨v4,rfl,O4,hb4⟩; obtain ⟨ya,yn,yc,rfl⟩:=j1Q O4; have HB4:=hidden hb4; have HO4:=hidden O4; have hr4:=x1R (x1R HROW.out HB4.out) (z1B (.cells #[.slice ya yn yc] 35)); have hnews:∀ j u,([.slice ya yn yc]:List Value)[j]? = some u->(W4.alloc (.cells #[.slice ya yn yc] 35)).cell? ((⟨W4.heap.size,0,none⟩:Addr).add j)=some u:=(q3R _ _); clear O4 hb4) | (at_builtin; refine wpList_append_own _ rfl _ _ 32 rfl w4.heap.size 35 i0 (.slice none 0 0) 1 24 Tryz.underlying32 hi hz0 hz1 hz2 rfl (by decide) (.slice qa k qc) k us rfl hr4 ⟨W4.heap.size,0,none⟩ 1 1 [.slice ya yn yc] rfl rfl hnews (by simp [Value.oneCell']) (by unfold maxLen; omega) (by omega) (by have h1:=hbw.size; have h2:=HB4.out.size; simp; omega) ?_; intro kv' W6 hown6 hgrow6 _));have hr4':(W4.alloc (.cells #[.slice ya yn yc] 35)).ownsRow w4.heap.size 35 1 (.slice qa k qc) kzs.length us:=by rw [HZL.out]; exact hr4
   have hown6':W6.ownsRow w4.heap.size 35 1 kv' (kzs.length+1) (us++[.slice ya yn yc]):=by rw [HZL.out]; exact hown6
   have hpush:=x1G.push hr4' (fun j hj=>let ⟨lo,hi',h⟩:=HOWN.out j hj; ⟨lo,hi',(h.keep' HB4.out).keep' (z1B _)⟩) (HO4.out.keep' (z1B _)) hown6' hgrow6;have hblk:∀ b,(Value.slice qa k qc).ownBlock=some b->w4.heap.size<=b:=fun b hb=>(hr4.lt b hb).1;have hb6:Below w4.heap.size w4 W6:=(z1A (z1A hbw HB4.out) (z1B _)).grown hgrow6 (by have h1:=hbw.size; have h2:=HB4.out.size; simp; omega) (fun b hb=>hblk b hb);obtain ⟨g6,c6,rfl⟩:∃ g6 c6,kv' = .slice (some ⟨g6,0,none⟩) (k+1) c6:=by
    rcases hown6.2 with ⟨_,h0⟩ | ⟨g,cap,cur,hv,_⟩
    ·
     omega
    ·
     exact ⟨g,cap,hv⟩
   exact ⟨⟨k+1,kzs++[zx],some ⟨g6,0,none⟩,c6,by omega,rfl,rfl,hpush,HMT.out,hb6⟩,by simp [intOf]; omega⟩
  ·
   have e:k=p.kids.length:=by omega
   have hltI:(p.kids.length:Int)<=(k:Int):=by omega
   have hall:p.kids.mapM (x1I (j1V [t0,t1] j1X v2Y v1W v2Z v2L j1Y) n)=some kzs:=by have:=HMK.out; rwa [e,List.take_length] at this
   obtain rfl:kzs=zss:=Option.some.inj (hall.symm.trans HKS.out);have hzl:kzs.length=k:=by rw [z2B _ _ _ hall,e]
   have hzp:kzs.length=p.kids.length:=z2B _ _ _ hall;have HZS:=hidden HO.out.at;obtain ⟨hkk,-,hok⟩:=(z2P (fun t:Tst=>t.okB 6) (fun c:Cel=>c.okB 6) (fun ks=>v1N ks 6) p.nd _).1 (x1M.1 (by unfold canP q3V at hcan; rw [Bool.and_eq_true] at hcan; exact hcan.1)).2.1;have HLW:=hidden (HL4.out.below hbw);have HZW:=hidden (HZ4.out.below hbw);have g0:=cell_at (j:=0) hbox rfl;have HBOX:=hidden hbox;have HPA:=hidden HLW.out.2.1;obtain ⟨x0a,x0n,x0c,x1a,x1n,x1c,htb,g40,g41,hx0,hx1⟩:=LSt.tabs HLW.out;have HX0:=hidden hx0;have HX1:=hidden hx1;have HM:=hidden (q6M HLW.out.2.2.2.2.1 HLW.out.2.2.2.2.2.2);have hlc:p.nd.cs.length<=1048576:=by have:=Pl.sz_succ p; omega
   have hlk:p.nd.ks.length<=1048576:=by have:=Pl.sz_succ p; omega
   clear HO HMK hall HKS e HBX HKD HWR hx0 hx1 hk hlt;go_upto_block 2 with fail
   go_cut [13,14] (fun xv cv wx=> ∃ (xa:Option Addr) (xn xc:Nat),xv = .slice xa xn xc/\cv = .bool true/\Hid (q1Y wx (.slice xa xn xc) z)/\Hid (Below wr.heap.size wr wx))
   case first=>
    by_cases k1:p.nd.k=1
    ·
     have q1:(p.nd.k==1)=true:=by simpa using k1
     have hf:v4L [t0,t1] p.nd.n=(true,z):=by have h:=HFK.out; simpa [j1V,k1] using h
     unfold v4L at hf;split at hf
     ·
      rename_i hc;obtain ⟨c1,c2,-⟩:=hc;have g1:wr.cell? ⟨B,1,none⟩=some (.int .i64 p.nd.n):=cell_at (j:=1) hbox rfl;have c3:p.nd.n<2:=by simpa using c2
      clear k1 hkk hok HFK hzp;rcases (by omega:p.nd.n=0\/p.nd.n=1) with h | h
      ·
       have hz:t0=z:=by rw [h] at hf; exact congrArg Prod.snd hf
       rw [h] at g1;have HXZ:Hid (q1Y wr (.slice x0a x0n x0c) z):=by have:=HX0.out; rw [hz] at this; exact this
       clear hf h hz c1 c2 c3;go_wp2_with fail;go_meet
       case rel=>exact ⟨_,_,_,rfl,rfl,HXZ.out,Below.refl _ _⟩
      ·
       have hz:t1=z:=by rw [h] at hf; exact congrArg Prod.snd hf
       rw [h] at g1;have HXZ:Hid (q1Y wr (.slice x1a x1n x1c) z):=by have:=HX1.out; rw [hz] at this; exact this
       clear hf h hz c1 c2 c3;go_wp2_with fail;go_meet
       case rel=>exact ⟨_,_,_,rfl,rfl,HXZ.out,Below.refl _ _⟩
     ·
      cases hf
    have q1:(p.nd.k==1)=false:=by simpa using k1
    by_cases k2:p.nd.k=2
    ·
     have q2:(p.nd.k==2)=true:=by simpa using k2
     have HTOLD:Hid (j1X p.nd.t (kzs.getD 0 [])=(true,z)):=hidden (by have h:=HFK.out; simpa [j1V,k2] using h);have hlen:kzs.length=1:=by have h:=hkk; rw [k2] at h; have h2:x1Z 2=1:=rfl; omega
     clear k2 hkk hok HFK hzp;obtain ⟨hkz,b0,off,ra,rn,rc,rfl,hbl,hc0,ht0⟩:=x1H HZS.out (j:=0) (by omega);rw [Nat.add_zero] at hc0;have HT0:=hidden ht0;have hp0:0<k:=by omega
     have KP:Hid (∀ X:World,Below wr.heap.size wr X->(fun X:World=>X.cell? ⟨b0,off,none⟩=some (.slice ra rn rc)/\X.rangeAt B 2 (t10 p.nd.t)/\True) X):=fun X hX=>⟨(hX.cell (p:=⟨b0,off,none⟩) hbl).trans hc0,x1Q (q1T (z1F HBOX.out hX)),trivial⟩;have hlx:(Tryz.prog.info? 26).map (·.size)=some (t10 p.nd.t).length:=by kernel_rfl
     clear hc0 ht0 hlen hkz hzl;go_wp2_with fail;refine wp_region_held_drew (S:=(fun X:World=>X.cell? ⟨b0,off,none⟩=some (.slice ra rn rc)/\X.rangeAt B 2 (t10 p.nd.t)/\True)) (by kernel_rfl) ?_ (fun hHeld=> ?_)
     ·
      (try dsimp only); exact KP.out _ (below_drewN (Below.refl _ _) 1)
     refine tk 0 ?_; simp only [ap];refine tk 1 ?_; simp only [ap];refine tk 2 ?_; simp only [ap];refine tk 3 ?_; simp only [ap];refine tl 4 (v:=.agg (t10 p.nd.t).toArray) rfl (yieldsIf_load_mid (by rfl) 26 _ rfl B 2 rfl (t10 p.nd.t) _ (fun x h=>h.2.1) Tryz.underlying26 rfl hlx) ?_;simp only [ap];refine r1 5 (fun K hK=> ?_);go_simp;(go_at_call 8; refine (HM.out.1 p.nd.t _ _ _ (below_drewN (Below.refl _ _) 1) (HT0.out.below (below_drewN (Below.refl _ _) 1))).mono ?_; rw [HTOLD.out]; rintro e w2 ⟨v2,rfl,O2,hb2⟩; obtain ⟨ya,yn,yc,rfl⟩:=j1Q O2; have HZ:=hidden (z1A (below_drewN (Below.refl _ _) 1) hb2); have HO8:=hidden O2.tail; clear O2 hb2);refine hK.out _ _ ?_ (fun hHeld=> ?_)
     ·
      (try dsimp only); exact KP.out _ HZ.out
     clear hK K;try simp only [ap]
     refine tk 6 ?_; simp only [ap];refine tk 7 ?_; simp only [ap];refine tk 8 ?_; simp only [ap];refine tk 9 ?_; simp only [ap];refine tk 10 ?_; simp only [ap];refine dn ?_;clear hHeld KP;go_wp2_with fail;go_meet
     case rel=>exact ⟨_,_,_,rfl,rfl,HO8.out,HZ.out⟩
    have q2:(p.nd.k==2)=false:=by simpa using k2
    by_cases k3:p.nd.k=3
    ·
     have q3:(p.nd.k==3)=true:=by simpa using k3
     have HTOLD:Hid (v2Y p.nd.cs (kzs.getD 0 [])=(true,z)):=hidden (by have h:=HFK.out; simpa [j1V,k3] using h);have hlen:kzs.length=1:=by have h:=hkk; rw [k3] at h; have h2:x1Z 3=1:=rfl; omega
     clear k3 hkk hok HFK hzp;obtain ⟨hkz,b0,off,ra,rn,rc,rfl,hbl,hc0,ht0⟩:=x1H HZS.out (j:=0) (by omega);rw [Nat.add_zero] at hc0;have HT0:=hidden ht0;have hp0:0<k:=by omega
     have KP:Hid (∀ X:World,Below wr.heap.size wr X->(fun X:World=>X.cell? ⟨b0,off,none⟩=some (.slice ra rn rc)/\X.cell? ⟨B,12,none⟩=some (.slice ca p.nd.cs.length cc)/\True) X):=fun X hX=>⟨(hX.cell (p:=⟨b0,off,none⟩) hbl).trans hc0,cell_at (z1F HBOX.out hX) rfl,trivial⟩;clear hc0 ht0 hlen hkz hzl;go_wp2_with fail;refine wp_region_held_drew (S:=(fun X:World=>X.cell? ⟨b0,off,none⟩=some (.slice ra rn rc)/\X.cell? ⟨B,12,none⟩=some (.slice ca p.nd.cs.length cc)/\True)) (by kernel_rfl) ?_ (fun hHeld=> ?_)
     ·
      (try dsimp only); exact KP.out _ (below_drewN (Below.refl _ _) 1)
     refine tk 0 ?_; simp only [ap];refine tk 1 ?_; simp only [ap];refine tk 2 ?_; simp only [ap];refine tk 3 ?_; simp only [ap];refine tk 4 ?_; simp only [ap];refine r1 5 (fun K hK=> ?_);go_simp;(go_at_call 9; refine (HM.out.2.1 p.nd.cs _ _ _ _ (below_drewN (Below.refl _ _) 1) (HT0.out.below (below_drewN (Below.refl _ _) 1)) (HPA.out.1.below (below_drewN (Below.refl _ _) 1)) hlc).mono ?_; rw [HTOLD.out]; rintro e w2 ⟨v2,rfl,O2,hb2⟩; obtain ⟨ya,yn,yc,rfl⟩:=j1Q O2; have HZ:=hidden (z1A (below_drewN (Below.refl _ _) 1) hb2); have HO8:=hidden O2.tail; clear O2 hb2);refine hK.out _ _ ?_ (fun hHeld=> ?_)
     ·
      (try dsimp only); exact KP.out _ HZ.out
     clear hK K;try simp only [ap]
     refine tk 6 ?_; simp only [ap];refine tk 7 ?_; simp only [ap];refine tk 8 ?_; simp only [ap];refine tk 9 ?_; simp only [ap];refine tk 10 ?_; simp only [ap];refine dn ?_;clear hHeld KP;go_wp2_with fail;go_meet
     case rel=>exact ⟨_,_,_,rfl,rfl,HO8.out,HZ.out⟩
    have q3:(p.nd.k==3)=false:=by simpa using k3
    by_cases k4:p.nd.k=4
    ·
     have q4:(p.nd.k==4)=true:=by simpa using k4
     have HTOLD:Hid (v1W (kzs.getD 0 []) (kzs.getD 1 []) p.nd.a p.nd.b=(true,z)):=hidden (by have h:=HFK.out; simpa [j1V,k4] using h);have hlen:kzs.length=2:=by have h:=hkk; rw [k4] at h; have h2:x1Z 4=2:=rfl; omega
     clear k4 hkk hok HFK hzp;obtain ⟨hkz,b0,off,ra,rn,rc,rfl,hbl,hc0,ht0⟩:=x1H HZS.out (j:=0) (by omega);rw [Nat.add_zero] at hc0;have HT0:=hidden ht0;have hp0:0<k:=by omega
     obtain ⟨-,b2,off2,rb,rm,rd,he2,hbl2,hc1,ht1⟩:=x1H HZS.out (j:=1) (by omega);simp only [Option.some.injEq,Addr.mk.injEq,and_true] at he2;obtain ⟨rfl,rfl⟩:=he2;have HT1:=hidden ht1;have hp1:1<k:=by omega
     have hp2:(1:Int)<(k:Int):=by omega
     have KP:Hid (∀ X:World,Below wr.heap.size wr X->(fun X:World=>X.cell? ⟨b0,off,none⟩=some (.slice ra rn rc)/\X.cell? ⟨b0,off+1,none⟩=some (.slice rb rm rd)/\X.cell? ⟨B,13,none⟩=some (.int .i64 p.nd.a)/\X.cell? ⟨B,14,none⟩=some (.int .i64 p.nd.b)/\True) X):=fun X hX=>⟨(hX.cell (p:=⟨b0,off,none⟩) hbl).trans hc0,(hX.cell (p:=⟨b0,off+1,none⟩) hbl).trans hc1,cell_at (z1F HBOX.out hX) rfl,cell_at (z1F HBOX.out hX) rfl,trivial⟩;clear hc0 ht0 hlen hkz hzl hc1 ht1 hbl2;go_wp2_with fail;refine wp_region_held_drew (S:=(fun X:World=>X.cell? ⟨b0,off,none⟩=some (.slice ra rn rc)/\X.cell? ⟨b0,off+1,none⟩=some (.slice rb rm rd)/\X.cell? ⟨B,13,none⟩=some (.int .i64 p.nd.a)/\X.cell? ⟨B,14,none⟩=some (.int .i64 p.nd.b)/\True)) (by kernel_rfl) ?_ (fun hHeld=> ?_)
     ·
      (try dsimp only); exact KP.out _ (below_drewN (Below.refl _ _) 1)
     refine tk 0 ?_; simp only [ap];refine tk 1 ?_; simp only [ap];refine tk 2 ?_; simp only [ap];refine tk 3 ?_; simp only [ap];refine tk 4 ?_; simp only [ap];refine tk 5 ?_; simp only [ap];refine tk 6 ?_; simp only [ap];refine tk 7 ?_; simp only [ap];refine tk 8 ?_; simp only [ap];refine tk 9 ?_; simp only [ap];refine r1 10 (fun K hK=> ?_);go_simp;(go_at_call 10; refine (HM.out.2.2.1 _ _ _ _ p.nd.a p.nd.b _ (below_drewN (Below.refl _ _) 1) (HT0.out.below (below_drewN (Below.refl _ _) 1)) (HT1.out.below (below_drewN (Below.refl _ _) 1))).mono ?_; rw [HTOLD.out]; rintro e w2 ⟨v2,rfl,O2,hb2⟩; obtain ⟨ya,yn,yc,rfl⟩:=j1Q O2; have HZ:=hidden (z1A (below_drewN (Below.refl _ _) 1) hb2); have HO8:=hidden O2.tail; clear O2 hb2);refine hK.out _ _ ?_ (fun hHeld=> ?_)
     ·
      (try dsimp only); exact KP.out _ HZ.out
     clear hK K;try simp only [ap]
     refine tk 11 ?_; simp only [ap];refine tk 12 ?_; simp only [ap];refine tk 13 ?_; simp only [ap];refine tk 14 ?_; simp only [ap];refine tk 15 ?_; simp only [ap];refine dn ?_;clear hHeld KP;go_wp2_with fail;go_meet
     case rel=>exact ⟨_,_,_,rfl,rfl,HO8.out,HZ.out⟩
    have q4:(p.nd.k==4)=false:=by simpa using k4
    by_cases k5:p.nd.k=5
    ·
     have q5:(p.nd.k==5)=true:=by simpa using k5
     have HTOLD:Hid (v2Z (kzs.getD 0 []) (kzs.getD 1 [])=(true,z)):=hidden (by have h:=HFK.out; simpa [j1V,k5] using h);have hlen:kzs.length=2:=by have h:=hkk; rw [k5] at h; have h2:x1Z 5=2:=rfl; omega
     clear k5 hkk hok HFK hzp;obtain ⟨hkz,b0,off,ra,rn,rc,rfl,hbl,hc0,ht0⟩:=x1H HZS.out (j:=0) (by omega);rw [Nat.add_zero] at hc0;have HT0:=hidden ht0;have hp0:0<k:=by omega
     obtain ⟨-,b2,off2,rb,rm,rd,he2,hbl2,hc1,ht1⟩:=x1H HZS.out (j:=1) (by omega);simp only [Option.some.injEq,Addr.mk.injEq,and_true] at he2;obtain ⟨rfl,rfl⟩:=he2;have HT1:=hidden ht1;have hp1:1<k:=by omega
     have hp2:(1:Int)<(k:Int):=by omega
     have KP:Hid (∀ X:World,Below wr.heap.size wr X->(fun X:World=>X.cell? ⟨b0,off,none⟩=some (.slice ra rn rc)/\X.cell? ⟨b0,off+1,none⟩=some (.slice rb rm rd)/\True) X):=fun X hX=>⟨(hX.cell (p:=⟨b0,off,none⟩) hbl).trans hc0,(hX.cell (p:=⟨b0,off+1,none⟩) hbl).trans hc1,trivial⟩;clear hc0 ht0 hlen hkz hzl hc1 ht1 hbl2;go_wp2_with fail;refine wp_region_held_drew (S:=(fun X:World=>X.cell? ⟨b0,off,none⟩=some (.slice ra rn rc)/\X.cell? ⟨b0,off+1,none⟩=some (.slice rb rm rd)/\True)) (by kernel_rfl) ?_ (fun hHeld=> ?_)
     ·
      (try dsimp only); exact KP.out _ (below_drewN (Below.refl _ _) 1)
     refine tk 0 ?_; simp only [ap];refine tk 1 ?_; simp only [ap];refine tk 2 ?_; simp only [ap];refine tk 3 ?_; simp only [ap];refine tk 4 ?_; simp only [ap];refine tk 5 ?_; simp only [ap];refine r1 6 (fun K hK=> ?_);go_simp;(go_at_call 11; refine (HM.out.2.2.2.1 _ _ _ _ _ (below_drewN (Below.refl _ _) 1) (HT0.out.below (below_drewN (Below.refl _ _) 1)) (HT1.out.below (below_drewN (Below.refl _ _) 1))).mono ?_; rw [HTOLD.out]; rintro e w2 ⟨v2,rfl,O2,hb2⟩; obtain ⟨ya,yn,yc,rfl⟩:=j1Q O2; have HZ:=hidden (z1A (below_drewN (Below.refl _ _) 1) hb2); have HO8:=hidden O2.tail; clear O2 hb2);refine hK.out _ _ ?_ (fun hHeld=> ?_)
     ·
      (try dsimp only); exact KP.out _ HZ.out
     clear hK K;try simp only [ap]
     refine tk 7 ?_; simp only [ap];refine tk 8 ?_; simp only [ap];refine tk 9 ?_; simp only [ap];refine tk 10 ?_; simp only [ap];refine tk 11 ?_; simp only [ap];refine dn ?_;clear hHeld KP;go_wp2_with fail;go_meet
     case rel=>exact ⟨_,_,_,rfl,rfl,HO8.out,HZ.out⟩
    have q5:(p.nd.k==5)=false:=by simpa using k5
    by_cases k6:p.nd.k=6
    ·
     have q6:(p.nd.k==6)=true:=by simpa using k6
     have HTOLD:Hid ((true,v2L (kzs.getD 0 []))=(true,z)):=hidden (by have h:=HFK.out; simpa [j1V,k6] using h);have hlen:kzs.length=1:=by have h:=hkk; rw [k6] at h; have h2:x1Z 6=1:=rfl; omega
     clear k6 hkk hok HFK hzp;obtain ⟨hkz,b0,off,ra,rn,rc,rfl,hbl,hc0,ht0⟩:=x1H HZS.out (j:=0) (by omega);rw [Nat.add_zero] at hc0;have HT0:=hidden ht0;have hp0:0<k:=by omega
     have KP:Hid (∀ X:World,Below wr.heap.size wr X->(fun X:World=>X.cell? ⟨b0,off,none⟩=some (.slice ra rn rc)/\True) X):=fun X hX=>⟨(hX.cell (p:=⟨b0,off,none⟩) hbl).trans hc0,trivial⟩;clear hc0 ht0 hlen hkz hzl;obtain ⟨gk,-⟩:=KP.out _ (Below.refl _ _);go_wp2_with (go_at_call 12; refine (HM.out.2.2.2.2.1 _ _ _ (Below.refl _ _) (HT0.out.below (Below.refl _ _))).mono ?_; rintro e w2 ⟨v2,rfl,O2,hb2⟩; have h6:v2L (kzs.getD 0 [])=z:=congrArg Prod.snd HTOLD.out; rw [h6] at O2; clear h6; obtain ⟨ya,yn,yc,rfl⟩:=j1Q O2; have HZ:=hidden hb2; have HO8:=hidden O2.tail; clear O2 hb2);clear KP;go_meet
     case rel=>exact ⟨_,_,_,rfl,rfl,HO8.out,HZ.out⟩
    have q6:(p.nd.k==6)=false:=by simpa using k6
    by_cases k7:p.nd.k=7
    ·
     have q7:(p.nd.k==7)=true:=by simpa using k7
     have HTOLD:Hid (j1Y (kzs.getD 0 []) p.nd.ks p.nd.g p.nd.c=(true,z)):=hidden (by have h:=HFK.out; simpa [j1V,k7] using h);have hlen:kzs.length=1:=by have h:=hkk; rw [k7] at h; have h2:x1Z 7=1:=rfl; omega
     clear k7 hkk hok HFK hzp;obtain ⟨hkz,b0,off,ra,rn,rc,rfl,hbl,hc0,ht0⟩:=x1H HZS.out (j:=0) (by omega);rw [Nat.add_zero] at hc0;have HT0:=hidden ht0;have hp0:0<k:=by omega
     have KP:Hid (∀ X:World,Below wr.heap.size wr X->(fun X:World=>X.cell? ⟨b0,off,none⟩=some (.slice ra rn rc)/\X.cell? ⟨B,15,none⟩=some (.slice ka p.nd.ks.length kc)/\X.cell? ⟨B,16,none⟩=some (.int .i64 p.nd.g)/\X.cell? ⟨B,17,none⟩=some (.int .i64 p.nd.c)/\True) X):=fun X hX=>⟨(hX.cell (p:=⟨b0,off,none⟩) hbl).trans hc0,cell_at (z1F HBOX.out hX) rfl,cell_at (z1F HBOX.out hX) rfl,cell_at (z1F HBOX.out hX) rfl,trivial⟩;clear hc0 ht0 hlen hkz hzl;go_wp2_with fail;refine wp_region_held_drew (S:=(fun X:World=>X.cell? ⟨b0,off,none⟩=some (.slice ra rn rc)/\X.cell? ⟨B,15,none⟩=some (.slice ka p.nd.ks.length kc)/\X.cell? ⟨B,16,none⟩=some (.int .i64 p.nd.g)/\X.cell? ⟨B,17,none⟩=some (.int .i64 p.nd.c)/\True)) (by kernel_rfl) ?_ (fun hHeld=> ?_)
     ·
      (try dsimp only); exact KP.out _ (below_drewN (Below.refl _ _) 1)
     refine tk 0 ?_; simp only [ap];refine tk 1 ?_; simp only [ap];refine tk 2 ?_; simp only [ap];refine tk 3 ?_; simp only [ap];refine tk 4 ?_; simp only [ap];refine tk 5 ?_; simp only [ap];refine tk 6 ?_; simp only [ap];refine tk 7 ?_; simp only [ap];refine tk 8 ?_; simp only [ap];refine r1 9 (fun K hK=> ?_);go_simp;(go_at_call 13; refine (HM.out.2.2.2.2.2 p.nd.ks _ _ _ p.nd.g p.nd.c _ (below_drewN (Below.refl _ _) 1) (HT0.out.below (below_drewN (Below.refl _ _) 1)) (HPA.out.2.1.below (below_drewN (Below.refl _ _) 1)) hlk).mono ?_; rw [HTOLD.out]; rintro e w2 ⟨v2,rfl,O2,hb2⟩; obtain ⟨ya,yn,yc,rfl⟩:=j1Q O2; have HZ:=hidden (z1A (below_drewN (Below.refl _ _) 1) hb2); have HO8:=hidden O2.tail; clear O2 hb2);refine hK.out _ _ ?_ (fun hHeld=> ?_)
     ·
      (try dsimp only); exact KP.out _ HZ.out
     clear hK K;try simp only [ap]
     refine tk 10 ?_; simp only [ap];refine tk 11 ?_; simp only [ap];refine tk 12 ?_; simp only [ap];refine tk 13 ?_; simp only [ap];refine tk 14 ?_; simp only [ap];refine dn ?_;clear hHeld KP;go_wp2_with fail;go_meet
     case rel=>exact ⟨_,_,_,rfl,rfl,HO8.out,HZ.out⟩
    have hno:x1Z p.nd.k = -1:=by simp [x1Z,k1,k2,k3,k4,k5,k6,k7]
    omega
   case rest=>
    as_aux_lemma=>
     obtain ⟨xa,xn,xc,rfl,rfl,HXC,HBC⟩:=hcut;have HLC:=hidden (HLW.out.below HBC.out);have HZC:=hidden (HZW.out.below HBC.out);have HRC:=hidden HLC.out.2.2.1.range;have HZOK:=hidden hzok;have hz100:=v1B hzok;clear HLW HZW HZS HX0 HX1 HM HPA HBOX g0 g40 g41 hbox hcel HFK hkk hok HL4 HZ4 hbw hltI hzl hzok hzp;go_wp2_with (first | refine wpList_load_mid rfl 31 _ rfl B 0 rfl _ _ HRC.out Tryz.underlying31 rfl hla ?_ | (go_at_call 14; refine (HLC.out.wide hn9 hsz hcan).mono ?_; rintro e w7 ⟨wd,rfl,hwd,hb7⟩; have HWD:=hidden hwd; have HL7:=hidden (HLC.out.below hb7); have HZ7:=hidden (HZC.out.below hb7); have HX7:=hidden (HXC.out.below hb7); clear hb7 hwd));obtain rfl:zn=z.length:=by obtain ⟨_,a',c',e,_⟩:=HZ7.out.items; simp at e; exact e.2.1
     clear HLC HZC HXC HRC HBC;go_loopw [16] (fun i wr=> ∃ k:Nat,k<=z.length/\i = .int .i64 k/\Hid (Below w7.heap.size w7 wr)) (fun i _=>z.length - (intOf i).toNat)
     case atStart=>exact ⟨0,Nat.zero_le _,rfl,Below.refl _ _⟩
     case round=>
      obtain ⟨k,hk,rfl,HV⟩:=hrel;by_cases hlt:k<z.length
      ·
       have hltI:(k:Int)<(z.length:Int):=by omega
       by_cases hw0:0<wd
       ·
        obtain ⟨-,bz,oz,ra,rc,rfl,hbz,hcz⟩:=q1Y.atL (HZ7.out.below HV.out) hlt;obtain ⟨x0a,x0n,x0c,x1a,x1n,x1c,htb,g40,g41,hx0,hx1⟩:=LSt.tabs (HL7.out.below HV.out);have HX0:=hidden hx0;have HX1:=hidden hx1;obtain ⟨R,HR⟩:∃ R,Hid (R=(z.getD k ([],0)).1.length):=⟨_,rfl⟩;rw [<-HR.out] at hcz;have HWR:Hid (t0.length=0\/(t0.getD 0 ([],0)).1.length=2->(R:Int)=wd):=fun h1=>by rw [HR.out,(HWD.out hw0).1]; exact k5E HONE.out HTWO.out hcan HMM.out (HWD.out hw0).2 h1 hlt
        have hn0:x0n=t0.length:=by obtain ⟨_,a',c',e,_⟩:=HX0.out.items; simp at e; exact e.2.1
        have hn1:x1n=t1.length:=by obtain ⟨_,a',c',e,_⟩:=HX1.out.items; simp at e; exact e.2.1
        have hl0:=hg0.1;have hl1:=hg1.1;by_cases he:(R:Int)=wd
        ·
         have h8:((R:Int) != wd)=false:=by simp [he]
         clear he HWR hn0 hn1 HR hx0 hx1;have HVD:Hid (∀ j,Below w7.heap.size w7 (wr.drewN j)):=fun j=>z1A HV.out (below_drewN (Below.refl _ _) j);clear HX0 HX1;go_wp2_with fail;go_quiet (fail)
         go_wp2_with fail;exact ⟨⟨k+1,by omega,rfl,HVD.out _⟩,by simp [intOf]; omega⟩
        have h8:((R:Int) != wd)=true:=by simp [he]
        have hz0:¬ t0.length=0:=fun h=>he (HWR.out (.inl h));have h0p:0<t0.length:=by omega
        obtain ⟨-,b0,o0,ra0,rc0,rfl,hb0,hc0⟩:=q1Y.atL HX0.out h0p;rw [Nat.zero_mul,Nat.add_zero] at hc0;have hR0:(((t0.getD 0 ([],0)).1.length:Int)==2)=false:=by rw [beq_eq_false_iff_ne]; intro h; exact he (HWR.out (.inr (by omega)))
        obtain ⟨R0,HR0⟩:∃ R0,Hid (R0=(t0.getD 0 ([],0)).1.length):=⟨_,rfl⟩;rw [<-HR0.out] at hc0 hR0;have hp0:0<x0n:=by omega
        have hp0I:(0:Int)<(x0n:Int):=by omega
        have hq:(0:Int)<IntKind.i64.wrap ((x0n:Int)+(x1n:Int)):=by rw [wrap_small (by omega) (by omega)]; omega
        clear he HWR hn0 hn1 HR HR0 hz0 hx0 hx1 h0p;have KP:Hid (∀ X:World,Below wr.heap.size wr X->(fun X:World=>X.cell? ⟨bz,oz+k*2,none⟩=some (.slice ra R rc)/\X.cell? ⟨tb,0,none⟩=some (.slice (some ⟨b0,o0,none⟩) x0n x0c)/\X.cell? ⟨tb,1,none⟩=some (.slice x1a x1n x1c)/\X.cell? ⟨b0,o0,none⟩=some (.slice ra0 R0 rc0)/\True) X):=fun X hX=>⟨(hX.cell (p:=⟨bz,oz+k*2,none⟩) hbz).trans hcz,(hX.cell (p:=⟨tb,0,none⟩) htb).trans g40,(hX.cell (p:=⟨tb,1,none⟩) htb).trans g41,(hX.cell (p:=⟨b0,o0,none⟩) hb0).trans hc0,trivial⟩;have HVD:=hidden (z1A HV.out (below_drewN (Below.refl _ _) 1));clear hcz g40 g41 HX0 HX1;go_wp2_with fail;refine wp_region_held_drew (S:=(fun X:World=>X.cell? ⟨bz,oz+k*2,none⟩=some (.slice ra R rc)/\X.cell? ⟨tb,0,none⟩=some (.slice (some ⟨b0,o0,none⟩) x0n x0c)/\X.cell? ⟨tb,1,none⟩=some (.slice x1a x1n x1c)/\X.cell? ⟨b0,o0,none⟩=some (.slice ra0 R0 rc0)/\True)) (by kernel_rfl) ?_ (fun hHeld=> ?_)
        ·
         (try dsimp only); exact KP.out _ (below_drewN (Below.refl _ _) 1)
        refine tk 0 ?_; simp only [ap];refine tk 1 ?_; simp only [ap];refine tk 2 ?_; simp only [ap];refine tk 3 ?_; simp only [ap];refine tk 4 ?_; simp only [ap];refine tk 5 ?_; simp only [ap];refine tk 6 ?_; simp only [ap];refine tk 7 ?_; simp only [ap];refine tk 8 ?_; simp only [ap];refine tk 9 ?_; simp only [ap];refine tk 10 ?_; simp only [ap];refine tk 11 ?_; simp only [ap];refine tk 12 ?_; simp only [ap];refine tk 13 ?_; simp only [ap];refine tk 14 ?_; simp only [ap];refine tk 15 ?_; simp only [ap];refine tk 16 ?_; simp only [ap];refine tk 17 ?_; simp only [ap];refine tk 18 ?_; simp only [ap];refine tk 19 ?_; simp only [ap];refine tk 20 ?_; simp only [ap];refine tk 21 ?_; simp only [ap];refine tk 22 ?_; simp only [ap];refine tk 23 ?_; simp only [ap];refine tk 24 ?_; simp only [ap];refine tk 25 ?_; simp only [ap];refine tk 26 ?_; simp only [ap];refine tk 27 ?_; simp only [ap];refine tk 28 ?_; simp only [ap];refine tk 29 ?_; simp only [ap];refine tk 30 ?_; simp only [ap];refine tk 31 ?_; simp only [ap];refine tk 32 ?_; simp only [ap];refine tk 33 ?_; simp only [ap];refine tk 34 ?_; simp only [ap];refine tk 35 ?_; simp only [ap];refine tk 36 ?_; simp only [ap];refine dn ?_;clear hHeld KP;go_wp2_with fail;exact ⟨⟨k+1,by omega,rfl,HVD.out⟩,by simp [intOf]; omega⟩
       ·
        have hw0':wd<=0:=by omega
        have HZF:=hidden (HZ7.out.below HV.out);have HX9:=hidden (HX7.out.below HV.out);go_wp2_with (first | (go_at_call 7; refine (z2C _ _ _ _ _ HX9.out.items HZF.out.items).mono ?_; rw [q3M]; rintro e w8 ⟨rfl,hb8⟩; have HB8:=hidden (z1A HV.out hb8); have HZ8:=hidden (HZF.out.below hb8); clear hb8) | (go_at_call 15; refine (z1O _ _ _ HZ8.out.items).mono ?_; rw [HZOK.out]; rintro e w9 ⟨rfl,hb9⟩; have HB9:=hidden (z1A HB8.out hb9); clear hb9));go_ret;exact ⟨rfl,z1A HL7.out.1 HB9.out⟩
      ·
       have hltI:(z.length:Int)<=(k:Int):=by omega
       have HZF:=hidden (HZ7.out.below HV.out);have HX9:=hidden (HX7.out.below HV.out);go_wp2_with (first | (go_at_call 7; refine (z2C _ _ _ _ _ HX9.out.items HZF.out.items).mono ?_; rw [q3M]; rintro e w8 ⟨rfl,hb8⟩; have HB8:=hidden (z1A HV.out hb8); have HZ8:=hidden (HZF.out.below hb8); clear hb8) | (go_at_call 15; refine (z1O _ _ _ HZ8.out.items).mono ?_; rw [HZOK.out]; rintro e w9 ⟨rfl,hb9⟩; have HB9:=hidden (z1A HB8.out hb9); clear hb9));go_ret;exact ⟨rfl,z1A HL7.out.1 HB9.out⟩
end Go.Proofs.YtmjaepdplbgohaaGreatDoor.Kd
namespace Go.Proofs.YtmjaepdplbgohaaGreatDoor
open Go.RowKit
def LaidM (W:World):Prop:=∃ ps pn,v1J W ps/\Kd.NoPlan W pn/\Tab W
theorem v3F {W:World} {r:List (String × DataW Unit)} (h:laidMet Tryz.prog (("loop.example/milldam/impl.errNoPlan",Rows.laid_loop_example_milldam_impl_errNoPlan) :: r) W):∃ p,Kd.NoPlan W p:=by
 have hg:Tryz.prog.globalNamed "loop.example/milldam/impl.errNoPlan" = some 1:=by kernel_rfl
 obtain ⟨a,s,hv,_⟩:=laid_sentinel h hg (by kernel_rfl) Tryz.underlying100 q5A Tryz.underlying248 Tryz.underlying270 rfl rfl Tryz.underlying9 (by kernel_rfl) (by kernel_rfl);have hc:=World.var?_cell hg hv 0;exact ⟨a,v1S hc,hc⟩
theorem mean_of_laid {W:World} (h:laidMet Tryz.prog [("math/bits.deBruijn32tab",Rows.laid_math_bits_deBruijn32tab),("math/bits.deBruijn64tab",Rows.laid_math_bits_deBruijn64tab),("internal/strconv.uint64pow10",Rows.laid_internal_strconv_uint64pow10),("loop.example/milldam/impl.errNotReckoned",Rows.laid_loop_example_milldam_impl_errNotReckoned),("loop.example/milldam/impl.errNoPlan",Rows.laid_loop_example_milldam_impl_errNoPlan)] W):LaidM W:=by
 obtain ⟨ps,hs⟩:=j4E h.tail.tail.tail;obtain ⟨pn,hn⟩:=v3F h.tail.tail.tail.tail;exact ⟨ps,pn,hs,hn,Lib.tabIs_of_head (g:=2) (t:=244) (e:=184) (n:=20) (by kernel_rfl) (by kernel_rfl) (by kernel_rfl) (by kernel_rfl) (by kernel_rfl) (by kernel_rfl) h.tail.tail⟩
theorem lawFnMean (a:Option Addr) (len cap:Nat) (bs:List Int) (w:World) (h:z5P .u8 w a len cap bs) (hl:LaidM w) :
  Calls Tryz.prog 3 #[.slice a len cap] w fun e w'=>e = .returned (.bool true)/\Below w.heap.size w w':=by
 obtain ⟨ps,pn,hs,hn,ht⟩:=hl;exact Kd.lawMean a len cap bs w h ps pn hs hn ht
end Go.Proofs.YtmjaepdplbgohaaGreatDoor
