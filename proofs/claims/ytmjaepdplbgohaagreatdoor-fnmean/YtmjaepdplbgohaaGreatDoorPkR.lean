/- Part of the proof of laws.FnMean: SpecWide, SpecPW. -/
import Derived.Test.YtmjaepdplbgohaaGreatDoorPkA
import Derived.Test.YtmjaepdplbgohaaGreatDoorPkQ
import Derived.Test.YtmjaepdplbgohaaGreatDoorPkN
import Derived.Test.YtmjaepdplbgohaaGreatDoorPkO
import Derived.Test.YtmjaepdplbgohaaGreatDoorPkI
import Derived.Deep.RegionHeld3
import Derived.Deep.RegionHeld
import Derived.OrdersHeld
import Derived.Deep.DeepCutAuto
import Derived.Deep.CutBlock
set_option maxRecDepth 100000
set_option maxHeartbeats 16000000
set_option linter.unusedVariables false
set_option linter.unusedSimpArgs false
namespace Go.Proofs.YtmjaepdplbgohaaGreatDoor.Kd
open Go.RowKit Go.Shelf
theorem int_lit1 (w:World) (n:Int):z1E (w.alloc (.cells #[.int .i64 n] 3)) (.slice (some ⟨w.heap.size,0,none⟩) 1 1) [n]:=by
 refine ⟨by simp,_,_,rfl,by simp,fun _=>⟨_,_,rfl,by simp,fun j hj=> ?_⟩⟩;have:j=0:=by simp at hj; omega
 subst this;simp [go_sem]
theorem snoc_all {P:Int->Prop} {xs:List Int} {y:Int} (h:∀ x∈xs,P x) (hy:P y):∀ x∈xs++[y],P x:=fun x hx=>by
 rcases List.mem_append.1 hx with e | e
 ·
  exact h x e
 ·
  have:x=y:=by simpa using e
  rw [this]; exact hy
def z5J (n:Nat):Prop:=
 ∀ (p:Pl (n+1)) (ca ka da:Option Addr) (cc kc dc:Nat) (dp wb:Nat) (w:World),dp<=1000->q1X (NodeAt n) w p.nd p.kids (.slice ca p.nd.cs.length cc) (.slice ka p.nd.ks.length kc) (.slice da p.kids.length dc)->Pl.sz (n+1) p<=1048576->wb<w.heap.size->w.cell? ⟨wb,0,none⟩=some (.int .i64 2)->w.cell? ⟨wb,1,none⟩=some (.int .i64 2) →
  Calls Tryz.prog 96 #[.agg (p19 p ca cc ka kc da dc).toArray,.slice (some ⟨wb,0,none⟩) 2 2,.int .i64 dp] w fun e w'=> ∃ x:Int,e = .returned (.int .i64 x)/\x<=6/\Below w.heap.size w w'
theorem j3S (n:Nat) (IH:∀ m,n=m+1->z5J m):z5J n:=by
 intro p ca ka da cc kc dc dp wb w hdp hp hz hwb hw0 hw1;obtain ⟨hcs,hks,hkd⟩:=hp;have HKD:=hidden hkd;have HCS:=hidden hcs;have HKS:=hidden hks;have HIH:=hidden IH;have HW0:=hidden hw0;have HW1:=hidden hw1;have hsz:=Pl.sz_succ p;have hln:p.kids.length<=1048576:=by omega
 have hlc:p.nd.cs.length<=1048576:=by omega
 have hlk:p.nd.ks.length<=1048576:=by omega
 obtain ⟨i0,hi,hz0,hz1,hz2⟩:=info_parts infoInt;clear hcs hks hkd IH hw0 hw1;have hla:(Tryz.prog.info? 31).map (·.size)=some (p19 p ca cc ka kc da dc).length:=by kernel_rfl
 have HA:Hid ((w.alloc (.cells (p19 p ca cc ka kc da dc).toArray 31)).heap[w.heap.size]? = some (.cells (p19 p ca cc ka kc da dc).toArray 31)):=alloc_at _ _;have HB:Hid (Below w.heap.size w (w.alloc (.cells (p19 p ca cc ka kc da dc).toArray 31))):=z1B _;have KP:Hid (∀ X:World,Below (w.alloc (.cells (p19 p ca cc ka kc da dc).toArray 31)).heap.size (w.alloc (.cells (p19 p ca cc ka kc da dc).toArray 31)) X->(fun X:World=>X.cell? ⟨w.heap.size,0,none⟩=some (.int .i64 p.nd.k)/\X.cell? ⟨w.heap.size,18,none⟩=some (.slice da p.kids.length dc)/\X.rangeAt w.heap.size 0 (p19 p ca cc ka kc da dc)) X):=fun X hX=>⟨cell_at (z1F HA.out hX) rfl,cell_at (z1F HA.out hX) rfl,q1T (z1F HA.out hX)⟩;by_cases hd1:1<=dp
 ·
  have hdB:decide ((dp:Int)<1)=false:=by simp; omega
  by_cases hk:x1Z p.nd.k=p.kids.length
  ·
   have hkB:(x1Z p.nd.k != (p.kids.length:Int))=false:=by simp [hk]
   cases hcl:x1U p.nd with
   | false=>
    clear hk;go_enter Tryz.func96,Tryz.ntmps96;go_wp2_with fail;refine wp_region_held_drew (S:=(fun X:World=>X.cell? ⟨w.heap.size,0,none⟩=some (.int .i64 p.nd.k)/\X.cell? ⟨w.heap.size,18,none⟩=some (.slice da p.kids.length dc)/\X.rangeAt w.heap.size 0 (p19 p ca cc ka kc da dc))) (by kernel_rfl) ?_ (fun hHeld=> ?_)
    ·
     (try dsimp only); exact KP.out _ (below_drewN (Below.refl _ _) 1)
    refine tk 0 ?_; simp only [ap];refine tk 1 ?_; simp only [ap];refine tk 2 ?_; simp only [ap];refine tk 3 ?_; simp only [ap];refine tk 4 ?_; simp only [ap];refine tk 6 ?_; simp only [ap];refine tk 7 ?_; simp only [ap];refine tk 8 ?_; simp only [ap];refine r1 5 (fun K hK=> ?_);go_simp;(go_at_call 101; refine (z2I _ _).mono ?_; rintro e w1 ⟨rfl,rfl⟩);refine hK.out _ _ ?_ (fun hHeld=> ?_)
    ·
     (try dsimp only); exact hHeld
    clear hK K;try simp only [ap]
    refine tk 9 ?_; simp only [ap];refine tk 10 ?_; simp only [ap];refine tk 11 ?_; simp only [ap];refine tl 12 (v:=.agg (p19 p ca cc ka kc da dc).toArray) rfl (yieldsIf_load_mid (by rfl) 31 _ rfl w.heap.size 0 rfl (p19 p ca cc ka kc da dc) _ (fun x h=>h.2.2) Tryz.underlying31 rfl hla) ?_;simp only [ap];refine r1 13 (fun K hK=> ?_);go_simp;(go_at_call 102; refine (j2F p.nd ca ka cc kc _ _).mono ?_; rw [hcl]; rintro e w1 ⟨rfl,hb1⟩; have HZ:=hidden (z1A (below_drewN (Below.refl _ _) 1) hb1); clear hb1);refine hK.out _ _ ?_ (fun hHeld=> ?_)
    ·
     (try dsimp only); exact KP.out _ HZ.out
    clear hK K;try simp only [ap]
    refine tk 14 ?_; simp only [ap];refine tk 15 ?_; simp only [ap];refine dn ?_;have HE:=hidden (z1A HB.out HZ.out);clear hHeld KP;go_wp2_with fail;go_ret;exact ⟨-1,rfl,by decide,HE.out⟩
   | true=>
    have HKK:=hidden hk;clear hk;go_enter Tryz.func96,Tryz.ntmps96;go_wp2_with fail;refine wp_region_held_drew (S:=(fun X:World=>X.cell? ⟨w.heap.size,0,none⟩=some (.int .i64 p.nd.k)/\X.cell? ⟨w.heap.size,18,none⟩=some (.slice da p.kids.length dc)/\X.rangeAt w.heap.size 0 (p19 p ca cc ka kc da dc))) (by kernel_rfl) ?_ (fun hHeld=> ?_)
    ·
     (try dsimp only); exact KP.out _ (below_drewN (Below.refl _ _) 1)
    refine tk 0 ?_; simp only [ap];refine tk 1 ?_; simp only [ap];refine tk 2 ?_; simp only [ap];refine tk 3 ?_; simp only [ap];refine tk 4 ?_; simp only [ap];refine tk 6 ?_; simp only [ap];refine tk 7 ?_; simp only [ap];refine tk 8 ?_; simp only [ap];refine r1 5 (fun K hK=> ?_);go_simp;(go_at_call 101; refine (z2I _ _).mono ?_; rintro e w1 ⟨rfl,rfl⟩);refine hK.out _ _ ?_ (fun hHeld=> ?_)
    ·
     (try dsimp only); exact hHeld
    clear hK K;try simp only [ap]
    refine tk 9 ?_; simp only [ap];refine tk 10 ?_; simp only [ap];refine tk 11 ?_; simp only [ap];refine tl 12 (v:=.agg (p19 p ca cc ka kc da dc).toArray) rfl (yieldsIf_load_mid (by rfl) 31 _ rfl w.heap.size 0 rfl (p19 p ca cc ka kc da dc) _ (fun x h=>h.2.2) Tryz.underlying31 rfl hla) ?_;simp only [ap];refine r1 13 (fun K hK=> ?_);go_simp;(go_at_call 102; refine (j2F p.nd ca ka cc kc _ _).mono ?_; rw [hcl]; rintro e w1 ⟨rfl,hb1⟩; have HZ:=hidden (z1A (below_drewN (Below.refl _ _) 1) hb1); clear hb1);refine hK.out _ _ ?_ (fun hHeld=> ?_)
    ·
     (try dsimp only); exact KP.out _ HZ.out
    clear hK K;try simp only [ap]
    refine tk 14 ?_; simp only [ap];refine tk 15 ?_; simp only [ap];refine dn ?_;have HE:=hidden (z1A HB.out HZ.out);have HX1:=hidden (z1F HA.out HZ.out);clear hHeld KP hcl HA HB;obtain ⟨W1,HW1E⟩:∃ W1,Hid (W1=w1):=⟨w1,rfl⟩;have HOW:=hidden (x1Y (w:=w1.alloc (.cells #[] 3)) (lo:=w1.heap.size) (n:=0) (xs:=[]) (World.ownsRow_lit w1 #[] 0 (Nat.le_refl _) (by unfold maxLen; omega) rfl) (by simp));have HOX:=hidden (z1F HX1.out (z1B (.cells #[] 3)));have HOE:=hidden (z1A HE.out (z1B (.cells #[] 3)));have hs1:w.heap.size<w1.heap.size:=q2Q HX1.out;have HWW:=hidden HE.out;go_wp2_with fail;go_loopw [7,8] (fun v i wr=> ∃ (k:Nat) (xs:List Int) (qa:Option Addr) (qc:Nat),k<=p.kids.length/\i = .int .i64 k/\v = .slice qa k qc/\Hid (Own wr w1.heap.size wr.heap.size (.slice qa k qc) xs)/\Hid (xs.length=k)/\Hid (∀ x∈xs,1<=x/\x<=6)/\Hid (w1.heap.size<=wr.heap.size)/\Hid (Below w.heap.size w wr/\wr.heap[w.heap.size]? = some (.cells (p19 p ca cc ka kc da dc).toArray 31))) (fun _ i _=>p.kids.length - (intOf i).toNat)
    case atStart=>exact ⟨0,[],_,0,Nat.zero_le _,rfl,rfl,HOW.out,rfl,(by show ∀ x∈([]:List Int),1<=x/\x<=6; intro x hx; cases hx),(by show _<=_; simp),HOE.out,HOX.out⟩
    case round=>
     obtain ⟨k,xs,qa,qc,hk,rfl,rfl,HO,HXL,HXS,HS1,HWR⟩:=hrel;clear HOW HOX HOE HE HX1 HZ HW1E;obtain ⟨hbw,hbox⟩:=HWR.out;have hcel:=cell_at (j:=18) hbox rfl;by_cases hlt:k<p.kids.length
     ·
      have hltI:(k:Int)<(p.kids.length:Int):=by omega
      cases n with
      | zero=>cases p.kids[k]
      | succ m=>
      obtain ⟨_,a0,cap0,heq,-,hcs⟩:=id HKD.out;obtain ⟨kb,ko,rfl,hkb,hnode⟩:=hcs (fun h=>by rw [h] at hlt; exact absurd hlt (Nat.not_lt_zero _));obtain ⟨rfl,-,rfl⟩:da=some ⟨kb,ko,none⟩/\True/\dc=cap0:=by simpa using heq
      obtain ⟨x,HX⟩:∃ x,Hid (x=p.kids[k]):=⟨p.kids[k],Eq.refl p.kids[k]⟩;have hnd:=hnode k hlt;rw [<-HX.out] at hnd;obtain ⟨_,xc,xk,xv,hfl,hpr⟩:=hnd;obtain ⟨_,xa,xd,rfl,_⟩:=id hpr.2.2;obtain ⟨_,xca,xcc,rfl,_⟩:=id hpr.1;obtain ⟨_,xka,xkc,rfl,_⟩:=id hpr.2.1;have HRX:Hid (wr.rangeAt kb (ko+k*19) (p19 x xca xcc xka xkc xa xd)):=fun j v hv=>(hbw.cell (p:=⟨kb,ko+k*19+j,none⟩) hkb).trans (hfl.range j v hv);have hlx:(Tryz.prog.info? 31).map (·.size)=some (p19 x xca xcc xka xkc xa xd).length:=by kernel_rfl
      have hszx:Pl.sz (m+1) x<=1048576:=by
       have h1:=k1B hlt;rw [<-HX.out] at h1;unfold k1X at h1;omega
      have HIX:=hidden (HIH.out m rfl x xca xka xa xcc xkc xd (dp - 1) wb wr (by omega) (hpr.below hbw fun b o y h=>NodeAt.below m h hbw) hszx (Nat.lt_of_lt_of_le hwb hbw.size) ((hbw.cell (p:=⟨wb,0,none⟩) hwb).trans HW0.out) ((hbw.cell (p:=⟨wb,1,none⟩) hwb).trans HW1.out));have hdm:((dp - 1:Nat):Int)=(dp:Int) - 1:=by omega
      rw [hdm] at HIX;have hwr1:IntKind.i64.wrap ((dp:Int) - 1)=(dp:Int) - 1:=by rw [wrap_small] <;> omega
      clear hnode hcs heq hfl hpr HKD;go_wp2_with (refine wpList_load_mid rfl 31 _ rfl kb (ko+k*19) rfl _ _ HRX.out Tryz.underlying31 rfl hlx ?_);refine HIX.out.mono ?_;rintro e W4 ⟨y,rfl,hy6,hb4⟩;have HY6:=hidden hy6;have HB4:=hidden (z1A hbw hb4);have HX4:=hidden (z1F hbox hb4);have HO4:=hidden ((HO.out.keep' hb4).wide (Nat.le_refl _) hb4.size (Nat.le_refl _));have HS4:=hidden (Nat.le_trans HS1.out hb4.size);clear hb4 hy6;by_cases hy1:y<1
      ·
       go_wp2_with fail;go_ret;exact ⟨-1,rfl,by decide,HB4.out⟩
      ·
       have hy1':1<=y:=by omega
       clear hy1;have hO5:=HO4.out.keep' (z1B (.cells #[.int .i64 y] 3));have hs4:w1.heap.size<=W4.heap.size:=HS4.out;have hxl:=HXL.out;go_wp2_with (at_builtin; refine z1Q rfl _ _ 28 rfl w1.heap.size 3 i0 Tryz.underlying28 hi hz0 hz1 hz2 (.slice qa k qc) _ _ rfl hO5.1 _ [y] rfl (int_lit1 W4 y) (by simp; omega) (by simp; omega) ?_; intro v5 W5 hown hga _);have hblk:∀ b,(Value.slice qa k qc).ownBlock=some b->w1.heap.size<=b:=fun b hb=>(hO5.1.lt b hb).1;have O5:Own W5 w1.heap.size W5.heap.size v5 (xs++[y]):=x1Y (xs:=xs++[y]) (by simpa using hown) (by simp; omega);have B5:Below w.heap.size w W5:=(z1A HB4.out (z1B _)).grown hga (by have h2:=HB4.out.size; simp; omega) (fun b hb=>by have:=hblk b hb; omega);have X5:=(hga.block w.heap.size (by have h2:=q2Q HX4.out; simp; omega) (fun e=>by have:=hblk _ e.symm; omega)).trans (z1F HX4.out (z1B (.cells #[.int .i64 y] 3)));have HY6b:=HY6.out;obtain ⟨g6,c6,hv6,-⟩:=O5.shape (by simp);have hl6:(xs++[y]).length=k+1:=by simp [hxl]
       rw [hl6] at hv6;subst hv6;refine ⟨⟨k+1,xs++[y],_,_,by omega,rfl,rfl,O5,by show _=_; simp [hxl],snoc_all HXS.out ⟨hy1',HY6b⟩,O5.2.2.2 |> fun _=>Nat.le_trans hs4 (by have h3:=hga.size; simp at h3; omega),B5,X5⟩,by simp [intOf]; omega⟩
     ·
      have hltI:(p.kids.length:Int)<=(k:Int):=by omega
      have e:k=p.kids.length:=by omega
      have hxl:=HXL.out;have hkk:=HKK.out;rw [<-e] at hkk;have g0:=cell_at (j:=0) hbox rfl;have HBOX:=hidden hbox;clear HIH HKD HKK HXL e hz hsz;go_upto_block 2 with fail
      go_cut [10,11] (fun okv wv wx=> ∃ (b:Bool) (x:Int),okv = .bool b/\wv = .int .i64 x/\Hid (Below w.heap.size w wx))
      case first=>
       by_cases k1:p.nd.k=1
       ·
        have q1:(p.nd.k==1)=true:=by simpa using k1
        clear k1;have g1:wr.cell? ⟨w.heap.size,1,none⟩=some (.int .i64 p.nd.n):=cell_at (j:=1) hbox rfl;clear hkk;have gw0:=(hbw.cell (p:=⟨wb,0,none⟩) hwb).trans HW0.out;have gw1:=(hbw.cell (p:=⟨wb,1,none⟩) hwb).trans HW1.out;by_cases ha:0<=p.nd.n
        ·
         by_cases hb:p.nd.n<2
         ·
          have hc:p.nd.n<3:=by omega
          rcases (by omega:p.nd.n=0\/p.nd.n=1) with h | h
          ·
           rw [h] at g1;go_wp2_with fail;go_meet
           case rel=>exact ⟨_,_,rfl,rfl,hbw⟩
          ·
           rw [h] at g1;go_wp2_with fail;go_meet
           case rel=>exact ⟨_,_,rfl,rfl,hbw⟩
         ·
          have hb':2<=p.nd.n:=by omega
          go_wp2_with fail;go_meet
          case rel=>exact ⟨_,_,rfl,rfl,hbw⟩
        ·
         have ha':p.nd.n<0:=by omega
         go_wp2_with fail;go_meet
         case rel=>exact ⟨_,_,rfl,rfl,hbw⟩
       have q1:(p.nd.k==1)=false:=by simpa using k1
       by_cases k2:p.nd.k=2
       ·
        have q2:(p.nd.k==2)=true:=by simpa using k2
        have hm:k=1:=by have h:=hkk; rw [k2] at h; have h2:x1Z 2=1:=rfl; omega
        subst hm;clear k2;obtain ⟨gw,cw,e9,-,hgw,-,-⟩:=HO.out.shape (by omega);simp only [Value.slice.injEq] at e9;obtain ⟨rfl,-,-⟩:=e9;obtain ⟨-,a9,c9,e8,-,h9⟩:=HO.out.ints;obtain ⟨b8,o8,e7,-,hcl8⟩:=h9 (fun e=>by rw [e] at hxl; simp at hxl);simp only [Value.slice.injEq] at e8;rw [<-e8.1] at e7;simp only [Option.some.injEq,Addr.mk.injEq,and_true] at e7;obtain ⟨rfl,rfl⟩:=e7;obtain ⟨x0,hx0⟩:∃ x,x=xs.getD 0 0:=⟨_,rfl⟩;have c0:=hcl8 0 (by omega);rw [<-hx0] at c0;have b0:1<=x0/\x0<=6:=by rw [hx0]; exact HXS.out _ (k1O (by omega))
        rw [Nat.add_zero] at c0;clear hcl8 e8 HXS hx0;have KP:Hid (∀ X:World,Below wr.heap.size wr X->(fun X:World=>X.cell? ⟨gw,0,none⟩=some (.int .i64 x0)/\X.rangeAt w.heap.size 2 (t10 p.nd.t)/\True) X):=fun X hX=>⟨(hX.cell (p:=⟨gw,0,none⟩) hgw).trans c0,x1Q (q1T (z1F HBOX.out hX)),trivial⟩;have hlt:(Tryz.prog.info? 26).map (·.size)=some (t10 p.nd.t).length:=by kernel_rfl
        clear hkk c0;go_wp2_with fail;refine wp_region_held_drew (S:=(fun X:World=>X.cell? ⟨gw,0,none⟩=some (.int .i64 x0)/\X.rangeAt w.heap.size 2 (t10 p.nd.t)/\True)) (by kernel_rfl) ?_ (fun hHeld=> ?_)
        ·
         (try dsimp only); exact KP.out _ (below_drewN (Below.refl _ _) 1)
        refine tk 0 ?_; simp only [ap];refine tl 1 (v:=.agg (t10 p.nd.t).toArray) rfl (yieldsIf_load_mid (by rfl) 26 _ rfl w.heap.size 2 rfl (t10 p.nd.t) _ (fun x h=>h.2.1) Tryz.underlying26 rfl hlt) ?_;simp only [ap];refine tk 2 ?_; simp only [ap];refine tk 3 ?_; simp only [ap];refine tk 4 ?_; simp only [ap];refine r1 5 (fun K hK=> ?_);go_simp;(go_at_call 103; refine (q1Q p.nd.t x0 _).mono ?_; rintro e w2 ⟨rfl,hb2⟩; have HZ:=hidden (z1A (below_drewN (Below.refl _ _) 1) hb2); clear hb2);refine hK.out _ _ ?_ (fun hHeld=> ?_)
        ·
         (try dsimp only); exact KP.out _ HZ.out
        clear hK K;try simp only [ap]
        refine tk 6 ?_; simp only [ap];refine dn ?_;have HE:=hidden (z1A hbw HZ.out);obtain ⟨k0,k1,-⟩:=KP.out _ HZ.out;clear hHeld KP;go_wp2_with fail;go_meet
        case rel=>exact ⟨_,_,rfl,rfl,HE.out⟩
       have q2:(p.nd.k==2)=false:=by simpa using k2
       by_cases k3:p.nd.k=3
       ·
        have q3:(p.nd.k==3)=true:=by simpa using k3
        have hm:k=1:=by have h:=hkk; rw [k3] at h; have h2:x1Z 3=1:=rfl; omega
        subst hm;clear k3;obtain ⟨gw,cw,e9,-,hgw,-,-⟩:=HO.out.shape (by omega);simp only [Value.slice.injEq] at e9;obtain ⟨rfl,-,-⟩:=e9;obtain ⟨-,a9,c9,e8,-,h9⟩:=HO.out.ints;obtain ⟨b8,o8,e7,-,hcl8⟩:=h9 (fun e=>by rw [e] at hxl; simp at hxl);simp only [Value.slice.injEq] at e8;rw [<-e8.1] at e7;simp only [Option.some.injEq,Addr.mk.injEq,and_true] at e7;obtain ⟨rfl,rfl⟩:=e7;obtain ⟨x0,hx0⟩:∃ x,x=xs.getD 0 0:=⟨_,rfl⟩;have c0:=hcl8 0 (by omega);rw [<-hx0] at c0;have b0:1<=x0/\x0<=6:=by rw [hx0]; exact HXS.out _ (k1O (by omega))
        rw [Nat.add_zero] at c0;clear hcl8 e8 HXS hx0;have KP:Hid (∀ X:World,Below wr.heap.size wr X->(fun X:World=>X.cell? ⟨gw,0,none⟩=some (.int .i64 x0)/\X.cell? ⟨w.heap.size,12,none⟩=some (.slice ca p.nd.cs.length cc)/\True) X):=fun X hX=>⟨(hX.cell (p:=⟨gw,0,none⟩) hgw).trans c0,cell_at (z1F HBOX.out hX) rfl,trivial⟩;clear hkk c0;go_wp2_with fail;refine wp_region_held_drew (S:=(fun X:World=>X.cell? ⟨gw,0,none⟩=some (.int .i64 x0)/\X.cell? ⟨w.heap.size,12,none⟩=some (.slice ca p.nd.cs.length cc)/\True)) (by kernel_rfl) ?_ (fun hHeld=> ?_)
        ·
         (try dsimp only); exact KP.out _ (below_drewN (Below.refl _ _) 1)
        refine tk 0 ?_; simp only [ap];refine tk 1 ?_; simp only [ap];refine tk 2 ?_; simp only [ap];refine tk 3 ?_; simp only [ap];refine tk 4 ?_; simp only [ap];refine r1 5 (fun K hK=> ?_);go_simp;(go_at_call 104; refine (j3X _ p.nd.cs x0 _ (HCS.out.below (z1A hbw (below_drewN (Below.refl _ _) 1))).cels hlc).mono ?_; rintro e w2 ⟨rfl,hb2⟩; have HZ:=hidden (z1A (below_drewN (Below.refl _ _) 1) hb2); clear hb2);refine hK.out _ _ ?_ (fun hHeld=> ?_)
        ·
         (try dsimp only); exact KP.out _ HZ.out
        clear hK K;try simp only [ap]
        refine tk 6 ?_; simp only [ap];refine dn ?_;have HE:=hidden (z1A hbw HZ.out);obtain ⟨k0,k1,-⟩:=KP.out _ HZ.out;clear hHeld KP;go_wp2_with fail;go_meet
        case rel=>exact ⟨_,_,rfl,rfl,HE.out⟩
       have q3:(p.nd.k==3)=false:=by simpa using k3
       by_cases k4:p.nd.k=4
       ·
        have q4:(p.nd.k==4)=true:=by simpa using k4
        have hm:k=2:=by have h:=hkk; rw [k4] at h; have h2:x1Z 4=2:=rfl; omega
        subst hm;clear k4;obtain ⟨gw,cw,e9,-,hgw,-,-⟩:=HO.out.shape (by omega);simp only [Value.slice.injEq] at e9;obtain ⟨rfl,-,-⟩:=e9;obtain ⟨-,a9,c9,e8,-,h9⟩:=HO.out.ints;obtain ⟨b8,o8,e7,-,hcl8⟩:=h9 (fun e=>by rw [e] at hxl; simp at hxl);simp only [Value.slice.injEq] at e8;rw [<-e8.1] at e7;simp only [Option.some.injEq,Addr.mk.injEq,and_true] at e7;obtain ⟨rfl,rfl⟩:=e7;obtain ⟨x0,hx0⟩:∃ x,x=xs.getD 0 0:=⟨_,rfl⟩;have c0:=hcl8 0 (by omega);rw [<-hx0] at c0;have b0:1<=x0/\x0<=6:=by rw [hx0]; exact HXS.out _ (k1O (by omega))
        obtain ⟨x1,hx1⟩:∃ x,x=xs.getD 1 0:=⟨_,rfl⟩;have c1:=hcl8 1 (by omega);rw [<-hx1] at c1;have b1:1<=x1/\x1<=6:=by rw [hx1]; exact HXS.out _ (k1O (by omega))
        rw [Nat.add_zero] at c0;rw [Nat.zero_add] at c1;clear hcl8 e8 HXS hx0 hx1;have KP:Hid (∀ X:World,Below wr.heap.size wr X->(fun X:World=>X.cell? ⟨gw,0,none⟩=some (.int .i64 x0)/\X.cell? ⟨gw,1,none⟩=some (.int .i64 x1)/\X.cell? ⟨w.heap.size,13,none⟩=some (.int .i64 p.nd.a)/\X.cell? ⟨w.heap.size,14,none⟩=some (.int .i64 p.nd.b)/\True) X):=fun X hX=>⟨(hX.cell (p:=⟨gw,0,none⟩) hgw).trans c0,(hX.cell (p:=⟨gw,1,none⟩) hgw).trans c1,cell_at (z1F HBOX.out hX) rfl,cell_at (z1F HBOX.out hX) rfl,trivial⟩;clear hkk c0 c1;cases ha:z2U p.nd.a x0 with
        | false=>
         go_wp2_with fail;refine wp_region_held_drew (S:=(fun X:World=>X.cell? ⟨gw,0,none⟩=some (.int .i64 x0)/\X.cell? ⟨gw,1,none⟩=some (.int .i64 x1)/\X.cell? ⟨w.heap.size,13,none⟩=some (.int .i64 p.nd.a)/\X.cell? ⟨w.heap.size,14,none⟩=some (.int .i64 p.nd.b)/\True)) (by kernel_rfl) ?_ (fun hHeld=> ?_)
         ·
          (try dsimp only); exact KP.out _ (below_drewN (Below.refl _ _) 1)
         refine tk 0 ?_; simp only [ap];refine tk 1 ?_; simp only [ap];refine tk 2 ?_; simp only [ap];refine tk 3 ?_; simp only [ap];refine tk 4 ?_; simp only [ap];refine r1 5 (fun K hK=> ?_);go_simp;(go_at_call 105; refine (x1E p.nd.a x0 _).mono ?_; rw [ha]; rintro e w2 ⟨rfl,rfl⟩);refine hK.out _ _ ?_ (fun hHeld=> ?_)
         ·
          (try dsimp only); exact hHeld
         clear hK K;try simp only [ap]
         refine tk 6 ?_; simp only [ap];refine tu 7 ?_; simp only [ap];refine tu 8 ?_; simp only [ap];refine tu 9 ?_; simp only [ap];refine tu 10 ?_; simp only [ap];refine tu 11 ?_; simp only [ap];refine tu 12 ?_; simp only [ap];refine tk 13 ?_; simp only [ap];refine tk 14 ?_; simp only [ap];refine dn ?_;clear hHeld;go_wp2_with fail;refine wp_region_held_drew (S:=(fun X:World=>X.cell? ⟨gw,0,none⟩=some (.int .i64 x0)/\X.cell? ⟨gw,1,none⟩=some (.int .i64 x1)/\X.cell? ⟨w.heap.size,13,none⟩=some (.int .i64 p.nd.a)/\X.cell? ⟨w.heap.size,14,none⟩=some (.int .i64 p.nd.b)/\True)) (by kernel_rfl) ?_ (fun hHeld=> ?_)
         ·
          (try dsimp only); exact KP.out _ (below_drewN (below_drewN (Below.refl _ _) 1) 1)
         refine tk 0 ?_; simp only [ap];refine tk 1 ?_; simp only [ap];refine tk 2 ?_; simp only [ap];refine tk 3 ?_; simp only [ap];refine tk 4 ?_; simp only [ap];refine tk 5 ?_; simp only [ap];refine tk 6 ?_; simp only [ap];refine tk 7 ?_; simp only [ap];refine dn ?_;have HE:=hidden (z1A hbw (below_drewN (below_drewN (Below.refl _ _) 1) 1));clear hHeld KP;go_wp2_with fail;go_meet
         case rel=>exact ⟨_,_,rfl,rfl,HE.out⟩
        | true=>
         go_wp2_with fail;refine wp_region_held_drew (S:=(fun X:World=>X.cell? ⟨gw,0,none⟩=some (.int .i64 x0)/\X.cell? ⟨gw,1,none⟩=some (.int .i64 x1)/\X.cell? ⟨w.heap.size,13,none⟩=some (.int .i64 p.nd.a)/\X.cell? ⟨w.heap.size,14,none⟩=some (.int .i64 p.nd.b)/\True)) (by kernel_rfl) ?_ (fun hHeld=> ?_)
         ·
          (try dsimp only); exact KP.out _ (below_drewN (Below.refl _ _) 1)
         refine tk 0 ?_; simp only [ap];refine tk 1 ?_; simp only [ap];refine tk 2 ?_; simp only [ap];refine tk 3 ?_; simp only [ap];refine tk 4 ?_; simp only [ap];refine r1 5 (fun K hK=> ?_);go_simp;(go_at_call 105; refine (x1E p.nd.a x0 _).mono ?_; rw [ha]; rintro e w2 ⟨rfl,rfl⟩);refine hK.out _ _ ?_ (fun hHeld=> ?_)
         ·
          (try dsimp only); exact hHeld
         clear hK K;try simp only [ap]
         refine tk 6 ?_; simp only [ap];refine tk 7 ?_; simp only [ap];refine tk 8 ?_; simp only [ap];refine tk 9 ?_; simp only [ap];refine tk 10 ?_; simp only [ap];refine tk 11 ?_; simp only [ap];refine r1 12 (fun K hK=> ?_);go_simp;(go_at_call 105; refine (x1E p.nd.b x1 _).mono ?_; rintro e w2 ⟨rfl,rfl⟩);refine hK.out _ _ ?_ (fun hHeld=> ?_)
         ·
          (try dsimp only); exact hHeld
         clear hK K;try simp only [ap]
         refine tk 13 ?_; simp only [ap];refine tk 14 ?_; simp only [ap];refine dn ?_;clear hHeld;go_wp2_with fail;refine wp_region_held_drew (S:=(fun X:World=>X.cell? ⟨gw,0,none⟩=some (.int .i64 x0)/\X.cell? ⟨gw,1,none⟩=some (.int .i64 x1)/\X.cell? ⟨w.heap.size,13,none⟩=some (.int .i64 p.nd.a)/\X.cell? ⟨w.heap.size,14,none⟩=some (.int .i64 p.nd.b)/\True)) (by kernel_rfl) ?_ (fun hHeld=> ?_)
         ·
          (try dsimp only); exact KP.out _ (below_drewN (below_drewN (Below.refl _ _) 1) 1)
         refine tk 0 ?_; simp only [ap];refine tk 1 ?_; simp only [ap];refine tk 2 ?_; simp only [ap];refine tk 3 ?_; simp only [ap];refine tk 4 ?_; simp only [ap];refine tk 5 ?_; simp only [ap];refine tk 6 ?_; simp only [ap];refine tk 7 ?_; simp only [ap];refine dn ?_;have HE:=hidden (z1A hbw (below_drewN (below_drewN (Below.refl _ _) 1) 1));clear hHeld KP;go_wp2_with fail;go_meet
         case rel=>exact ⟨_,_,rfl,rfl,HE.out⟩
       have q4:(p.nd.k==4)=false:=by simpa using k4
       by_cases k5:p.nd.k=5
       ·
        have q5:(p.nd.k==5)=true:=by simpa using k5
        have hm:k=2:=by have h:=hkk; rw [k5] at h; have h2:x1Z 5=2:=rfl; omega
        subst hm;clear k5;obtain ⟨gw,cw,e9,-,hgw,-,-⟩:=HO.out.shape (by omega);simp only [Value.slice.injEq] at e9;obtain ⟨rfl,-,-⟩:=e9;obtain ⟨-,a9,c9,e8,-,h9⟩:=HO.out.ints;obtain ⟨b8,o8,e7,-,hcl8⟩:=h9 (fun e=>by rw [e] at hxl; simp at hxl);simp only [Value.slice.injEq] at e8;rw [<-e8.1] at e7;simp only [Option.some.injEq,Addr.mk.injEq,and_true] at e7;obtain ⟨rfl,rfl⟩:=e7;obtain ⟨x0,hx0⟩:∃ x,x=xs.getD 0 0:=⟨_,rfl⟩;have c0:=hcl8 0 (by omega);rw [<-hx0] at c0;have b0:1<=x0/\x0<=6:=by rw [hx0]; exact HXS.out _ (k1O (by omega))
        obtain ⟨x1,hx1⟩:∃ x,x=xs.getD 1 0:=⟨_,rfl⟩;have c1:=hcl8 1 (by omega);rw [<-hx1] at c1;have b1:1<=x1/\x1<=6:=by rw [hx1]; exact HXS.out _ (k1O (by omega))
        rw [Nat.add_zero] at c0;rw [Nat.zero_add] at c1;clear hcl8 e8 HXS hx0 hx1;have KP:Hid (∀ X:World,Below wr.heap.size wr X->(fun X:World=>X.cell? ⟨gw,0,none⟩=some (.int .i64 x0)/\X.cell? ⟨gw,1,none⟩=some (.int .i64 x1)/\True) X):=fun X hX=>⟨(hX.cell (p:=⟨gw,0,none⟩) hgw).trans c0,(hX.cell (p:=⟨gw,1,none⟩) hgw).trans c1,trivial⟩;clear hkk c0 c1;go_wp2_with fail;refine wp_region_held_drew (S:=(fun X:World=>X.cell? ⟨gw,0,none⟩=some (.int .i64 x0)/\X.cell? ⟨gw,1,none⟩=some (.int .i64 x1)/\True)) (by kernel_rfl) ?_ (fun hHeld=> ?_)
        ·
         (try dsimp only); exact KP.out _ (below_drewN (Below.refl _ _) 1)
        refine tk 0 ?_; simp only [ap];refine tk 1 ?_; simp only [ap];refine tk 2 ?_; simp only [ap];refine tk 3 ?_; simp only [ap];refine tk 4 ?_; simp only [ap];refine tk 5 ?_; simp only [ap];refine tk 6 ?_; simp only [ap];refine tk 7 ?_; simp only [ap];refine dn ?_;obtain ⟨j0,j1,-⟩:=KP.out _ (Below.refl _ _);have HE:=hidden (z1A hbw (below_drewN (Below.refl _ _) 1));obtain ⟨k0,k1,-⟩:=KP.out _ (below_drewN (Below.refl _ _) 1);clear hHeld KP;go_wp2_with fail;go_meet
        case rel=>exact ⟨_,_,rfl,rfl,HE.out⟩
       have q5:(p.nd.k==5)=false:=by simpa using k5
       by_cases k6:p.nd.k=6
       ·
        have q6:(p.nd.k==6)=true:=by simpa using k6
        have hm:k=1:=by have h:=hkk; rw [k6] at h; have h2:x1Z 6=1:=rfl; omega
        subst hm;clear k6;obtain ⟨gw,cw,e9,-,hgw,-,-⟩:=HO.out.shape (by omega);simp only [Value.slice.injEq] at e9;obtain ⟨rfl,-,-⟩:=e9;obtain ⟨-,a9,c9,e8,-,h9⟩:=HO.out.ints;obtain ⟨b8,o8,e7,-,hcl8⟩:=h9 (fun e=>by rw [e] at hxl; simp at hxl);simp only [Value.slice.injEq] at e8;rw [<-e8.1] at e7;simp only [Option.some.injEq,Addr.mk.injEq,and_true] at e7;obtain ⟨rfl,rfl⟩:=e7;obtain ⟨x0,hx0⟩:∃ x,x=xs.getD 0 0:=⟨_,rfl⟩;have c0:=hcl8 0 (by omega);rw [<-hx0] at c0;have b0:1<=x0/\x0<=6:=by rw [hx0]; exact HXS.out _ (k1O (by omega))
        rw [Nat.add_zero] at c0;clear hcl8 e8 HXS hx0;clear hkk;go_wp2_with fail;go_meet
        case rel=>exact ⟨_,_,rfl,rfl,hbw⟩
       have q6:(p.nd.k==6)=false:=by simpa using k6
       by_cases k7:p.nd.k=7
       ·
        have q7:(p.nd.k==7)=true:=by simpa using k7
        have hm:k=1:=by have h:=hkk; rw [k7] at h; have h2:x1Z 7=1:=rfl; omega
        subst hm;clear k7;obtain ⟨gw,cw,e9,-,hgw,-,-⟩:=HO.out.shape (by omega);simp only [Value.slice.injEq] at e9;obtain ⟨rfl,-,-⟩:=e9;obtain ⟨-,a9,c9,e8,-,h9⟩:=HO.out.ints;obtain ⟨b8,o8,e7,-,hcl8⟩:=h9 (fun e=>by rw [e] at hxl; simp at hxl);simp only [Value.slice.injEq] at e8;rw [<-e8.1] at e7;simp only [Option.some.injEq,Addr.mk.injEq,and_true] at e7;obtain ⟨rfl,rfl⟩:=e7;obtain ⟨x0,hx0⟩:∃ x,x=xs.getD 0 0:=⟨_,rfl⟩;have c0:=hcl8 0 (by omega);rw [<-hx0] at c0;have b0:1<=x0/\x0<=6:=by rw [hx0]; exact HXS.out _ (k1O (by omega))
        rw [Nat.add_zero] at c0;clear hcl8 e8 HXS hx0;have KP:Hid (∀ X:World,Below wr.heap.size wr X->(fun X:World=>X.cell? ⟨gw,0,none⟩=some (.int .i64 x0)/\X.cell? ⟨w.heap.size,15,none⟩=some (.slice ka p.nd.ks.length kc)/\X.cell? ⟨w.heap.size,16,none⟩=some (.int .i64 p.nd.g)/\X.cell? ⟨w.heap.size,17,none⟩=some (.int .i64 p.nd.c)/\True) X):=fun X hX=>⟨(hX.cell (p:=⟨gw,0,none⟩) hgw).trans c0,cell_at (z1F HBOX.out hX) rfl,cell_at (z1F HBOX.out hX) rfl,cell_at (z1F HBOX.out hX) rfl,trivial⟩;clear hkk c0;obtain ⟨b01,b06⟩:=b0;cases hkk:v1N p.nd.ks x0 with
        | false=>
         go_wp2_with fail;refine wp_region_held_drew (S:=(fun X:World=>X.cell? ⟨gw,0,none⟩=some (.int .i64 x0)/\X.cell? ⟨w.heap.size,15,none⟩=some (.slice ka p.nd.ks.length kc)/\X.cell? ⟨w.heap.size,16,none⟩=some (.int .i64 p.nd.g)/\X.cell? ⟨w.heap.size,17,none⟩=some (.int .i64 p.nd.c)/\True)) (by kernel_rfl) ?_ (fun hHeld=> ?_)
         ·
          (try dsimp only); exact KP.out _ (below_drewN (Below.refl _ _) 1)
         refine tk 0 ?_; simp only [ap];refine tk 1 ?_; simp only [ap];refine tk 2 ?_; simp only [ap];refine tk 3 ?_; simp only [ap];refine tk 4 ?_; simp only [ap];refine r1 5 (fun K hK=> ?_);go_simp;(go_at_call 106; refine (v1H _ p.nd.ks x0 _ ((HKS.out.below (z1A hbw (below_drewN (Below.refl _ _) 1))).ints (by omega)) b06).mono ?_; rw [hkk]; rintro e w2 ⟨rfl,hb2⟩; have HZ:=hidden (z1A (below_drewN (Below.refl _ _) 1) hb2); clear hb2);refine hK.out _ _ ?_ (fun hHeld=> ?_)
         ·
          (try dsimp only); exact KP.out _ HZ.out
         clear hK K;try simp only [ap]
         refine tk 6 ?_; simp only [ap];refine tu 7 ?_; simp only [ap];refine tu 8 ?_; simp only [ap];refine tu 9 ?_; simp only [ap];refine tk 10 ?_; simp only [ap];refine tk 11 ?_; simp only [ap];refine tu 12 ?_; simp only [ap];refine tu 13 ?_; simp only [ap];refine tu 14 ?_; simp only [ap];refine tk 15 ?_; simp only [ap];refine tk 16 ?_; simp only [ap];refine tu 17 ?_; simp only [ap];refine tu 18 ?_; simp only [ap];refine tu 19 ?_; simp only [ap];refine tu 20 ?_; simp only [ap];refine tu 21 ?_; simp only [ap];refine tu 22 ?_; simp only [ap];refine tk 23 ?_; simp only [ap];refine tk 24 ?_; simp only [ap];refine dn ?_;have HE:=hidden (z1A hbw HZ.out);obtain ⟨k0,k1,k2,k3,-⟩:=KP.out _ HZ.out;clear hHeld KP;go_wp2_with fail;go_meet
         case rel=>exact ⟨_,_,rfl,rfl,HE.out⟩
        | true=>
         by_cases ha:0<=p.nd.g
         ·
          by_cases hb:p.nd.g<=3
          ·
           skip;go_wp2_with fail;refine wp_region_held_drew (S:=(fun X:World=>X.cell? ⟨gw,0,none⟩=some (.int .i64 x0)/\X.cell? ⟨w.heap.size,15,none⟩=some (.slice ka p.nd.ks.length kc)/\X.cell? ⟨w.heap.size,16,none⟩=some (.int .i64 p.nd.g)/\X.cell? ⟨w.heap.size,17,none⟩=some (.int .i64 p.nd.c)/\True)) (by kernel_rfl) ?_ (fun hHeld=> ?_)
           ·
            (try dsimp only); exact KP.out _ (below_drewN (Below.refl _ _) 1)
           refine tk 0 ?_; simp only [ap];refine tk 1 ?_; simp only [ap];refine tk 2 ?_; simp only [ap];refine tk 3 ?_; simp only [ap];refine tk 4 ?_; simp only [ap];refine r1 5 (fun K hK=> ?_);go_simp;(go_at_call 106; refine (v1H _ p.nd.ks x0 _ ((HKS.out.below (z1A hbw (below_drewN (Below.refl _ _) 1))).ints (by omega)) b06).mono ?_; rw [hkk]; rintro e w2 ⟨rfl,hb2⟩; have HZ:=hidden (z1A (below_drewN (Below.refl _ _) 1) hb2); clear hb2);refine hK.out _ _ ?_ (fun hHeld=> ?_)
           ·
            (try dsimp only); exact KP.out _ HZ.out
           clear hK K;try simp only [ap]
           refine tk 6 ?_; simp only [ap];refine tk 7 ?_; simp only [ap];refine tk 8 ?_; simp only [ap];refine tk 9 ?_; simp only [ap];refine tk 10 ?_; simp only [ap];refine tk 11 ?_; simp only [ap];refine tk 12 ?_; simp only [ap];refine tk 13 ?_; simp only [ap];refine tk 14 ?_; simp only [ap];refine tk 15 ?_; simp only [ap];refine tk 16 ?_; simp only [ap];refine tk 17 ?_; simp only [ap];refine tk 18 ?_; simp only [ap];refine tk 19 ?_; simp only [ap];refine tk 20 ?_; simp only [ap];refine tk 21 ?_; simp only [ap];refine r1 22 (fun K hK=> ?_);go_simp;(go_at_call 105; refine (x1E p.nd.c x0 _).mono ?_; rintro e w3 ⟨rfl,rfl⟩);refine hK.out _ _ ?_ (fun hHeld=> ?_)
           ·
            (try dsimp only); exact hHeld
           clear hK K;try simp only [ap]
           refine tk 23 ?_; simp only [ap];refine tk 24 ?_; simp only [ap];refine dn ?_;have HE:=hidden (z1A hbw HZ.out);obtain ⟨k0,k1,k2,k3,-⟩:=KP.out _ HZ.out;clear hHeld KP;go_wp2_with fail;go_meet
           case rel=>exact ⟨_,_,rfl,rfl,HE.out⟩
          ·
           have hb':3<p.nd.g:=by omega
           have hbB:decide (p.nd.g<=3)=false:=by simp; omega
           go_wp2_with fail;refine wp_region_held_drew (S:=(fun X:World=>X.cell? ⟨gw,0,none⟩=some (.int .i64 x0)/\X.cell? ⟨w.heap.size,15,none⟩=some (.slice ka p.nd.ks.length kc)/\X.cell? ⟨w.heap.size,16,none⟩=some (.int .i64 p.nd.g)/\X.cell? ⟨w.heap.size,17,none⟩=some (.int .i64 p.nd.c)/\True)) (by kernel_rfl) ?_ (fun hHeld=> ?_)
           ·
            (try dsimp only); exact KP.out _ (below_drewN (Below.refl _ _) 1)
           refine tk 0 ?_; simp only [ap];refine tk 1 ?_; simp only [ap];refine tk 2 ?_; simp only [ap];refine tk 3 ?_; simp only [ap];refine tk 4 ?_; simp only [ap];refine r1 5 (fun K hK=> ?_);go_simp;(go_at_call 106; refine (v1H _ p.nd.ks x0 _ ((HKS.out.below (z1A hbw (below_drewN (Below.refl _ _) 1))).ints (by omega)) b06).mono ?_; rw [hkk]; rintro e w2 ⟨rfl,hb2⟩; have HZ:=hidden (z1A (below_drewN (Below.refl _ _) 1) hb2); clear hb2);refine hK.out _ _ ?_ (fun hHeld=> ?_)
           ·
            (try dsimp only); exact KP.out _ HZ.out
           clear hK K;try simp only [ap]
           refine tk 6 ?_; simp only [ap];refine tk 7 ?_; simp only [ap];refine tk 8 ?_; simp only [ap];refine tk 9 ?_; simp only [ap];refine tk 10 ?_; simp only [ap];refine tk 11 ?_; simp only [ap];refine tk 12 ?_; simp only [ap];refine tk 13 ?_; simp only [ap];refine tk 14 ?_; simp only [ap];refine tk 15 ?_; simp only [ap];refine tk 16 ?_; simp only [ap];refine tu 17 ?_; simp only [ap];refine tu 18 ?_; simp only [ap];refine tu 19 ?_; simp only [ap];refine tu 20 ?_; simp only [ap];refine tu 21 ?_; simp only [ap];refine tu 22 ?_; simp only [ap];refine tk 23 ?_; simp only [ap];refine tk 24 ?_; simp only [ap];refine dn ?_;have HE:=hidden (z1A hbw HZ.out);obtain ⟨k0,k1,k2,k3,-⟩:=KP.out _ HZ.out;clear hHeld KP;go_wp2_with fail;go_meet
           case rel=>exact ⟨_,_,rfl,rfl,HE.out⟩
         ·
          have ha':p.nd.g<0:=by omega
          have haB:decide (0<=p.nd.g)=false:=by simp; omega
          go_wp2_with fail;refine wp_region_held_drew (S:=(fun X:World=>X.cell? ⟨gw,0,none⟩=some (.int .i64 x0)/\X.cell? ⟨w.heap.size,15,none⟩=some (.slice ka p.nd.ks.length kc)/\X.cell? ⟨w.heap.size,16,none⟩=some (.int .i64 p.nd.g)/\X.cell? ⟨w.heap.size,17,none⟩=some (.int .i64 p.nd.c)/\True)) (by kernel_rfl) ?_ (fun hHeld=> ?_)
          ·
           (try dsimp only); exact KP.out _ (below_drewN (Below.refl _ _) 1)
          refine tk 0 ?_; simp only [ap];refine tk 1 ?_; simp only [ap];refine tk 2 ?_; simp only [ap];refine tk 3 ?_; simp only [ap];refine tk 4 ?_; simp only [ap];refine r1 5 (fun K hK=> ?_);go_simp;(go_at_call 106; refine (v1H _ p.nd.ks x0 _ ((HKS.out.below (z1A hbw (below_drewN (Below.refl _ _) 1))).ints (by omega)) b06).mono ?_; rw [hkk]; rintro e w2 ⟨rfl,hb2⟩; have HZ:=hidden (z1A (below_drewN (Below.refl _ _) 1) hb2); clear hb2);refine hK.out _ _ ?_ (fun hHeld=> ?_)
          ·
           (try dsimp only); exact KP.out _ HZ.out
          clear hK K;try simp only [ap]
          refine tk 6 ?_; simp only [ap];refine tk 7 ?_; simp only [ap];refine tk 8 ?_; simp only [ap];refine tk 9 ?_; simp only [ap];refine tk 10 ?_; simp only [ap];refine tk 11 ?_; simp only [ap];refine tu 12 ?_; simp only [ap];refine tu 13 ?_; simp only [ap];refine tu 14 ?_; simp only [ap];refine tk 15 ?_; simp only [ap];refine tk 16 ?_; simp only [ap];refine tu 17 ?_; simp only [ap];refine tu 18 ?_; simp only [ap];refine tu 19 ?_; simp only [ap];refine tu 20 ?_; simp only [ap];refine tu 21 ?_; simp only [ap];refine tu 22 ?_; simp only [ap];refine tk 23 ?_; simp only [ap];refine tk 24 ?_; simp only [ap];refine dn ?_;have HE:=hidden (z1A hbw HZ.out);obtain ⟨k0,k1,k2,k3,-⟩:=KP.out _ HZ.out;clear hHeld KP;go_wp2_with fail;go_meet
          case rel=>exact ⟨_,_,rfl,rfl,HE.out⟩
       have q7:(p.nd.k==7)=false:=by simpa using k7
       have hno:x1Z p.nd.k = -1:=by simp [x1Z,k1,k2,k3,k4,k5,k6,k7]
       omega
      case rest=>
       obtain ⟨b,x,rfl,rfl,HBX⟩:=hcut;clear HBOX hbox hcel g0 HO hbw HWR;cases b with
       | false=>
        go_wp2_with fail;go_ret;exact ⟨-1,rfl,by decide,HBX.out⟩
       | true=>
        by_cases h1:x<1
        ·
         go_wp2_with fail;go_ret;exact ⟨-1,rfl,by decide,HBX.out⟩
        ·
         have h1':1<=x:=by omega
         by_cases h6:6<x
         ·
          go_wp2_with fail;go_ret;exact ⟨-1,rfl,by decide,HBX.out⟩
         ·
          have h6':x<=6:=by omega
          go_wp2_with fail;go_ret;exact ⟨x,rfl,h6',HBX.out⟩
  ·
   have hkB:(x1Z p.nd.k != (p.kids.length:Int))=true:=by simpa using hk
   clear hk;go_enter Tryz.func96,Tryz.ntmps96;go_wp2_with fail;refine wp_region_held_drew (S:=(fun X:World=>X.cell? ⟨w.heap.size,0,none⟩=some (.int .i64 p.nd.k)/\X.cell? ⟨w.heap.size,18,none⟩=some (.slice da p.kids.length dc)/\X.rangeAt w.heap.size 0 (p19 p ca cc ka kc da dc))) (by kernel_rfl) ?_ (fun hHeld=> ?_)
   ·
    (try dsimp only); exact KP.out _ (below_drewN (Below.refl _ _) 1)
   refine tk 0 ?_; simp only [ap];refine tk 1 ?_; simp only [ap];refine tk 2 ?_; simp only [ap];refine tk 3 ?_; simp only [ap];refine tk 4 ?_; simp only [ap];refine tk 6 ?_; simp only [ap];refine tk 7 ?_; simp only [ap];refine tk 8 ?_; simp only [ap];refine r1 5 (fun K hK=> ?_);go_simp;(go_at_call 101; refine (z2I _ _).mono ?_; rintro e w1 ⟨rfl,rfl⟩);refine hK.out _ _ ?_ (fun hHeld=> ?_)
   ·
    (try dsimp only); exact hHeld
   clear hK K;try simp only [ap]
   refine tk 9 ?_; simp only [ap];refine tk 10 ?_; simp only [ap];refine tk 11 ?_; simp only [ap];refine tu 12 ?_; simp only [ap];refine tu 13 ?_; simp only [ap];refine tu 14 ?_; simp only [ap];refine tk 15 ?_; simp only [ap];refine dn ?_;have HE:=hidden (below_drewN HB.out 1);clear hHeld KP;go_wp2_with fail;go_ret;exact ⟨-1,rfl,by decide,HE.out⟩
 ·
  have e:dp=0:=by omega
  subst e;go_enter Tryz.func96,Tryz.ntmps96;go_wp2_with fail;refine wp_region_held_drew (S:=(fun X:World=>X.cell? ⟨w.heap.size,0,none⟩=some (.int .i64 p.nd.k)/\X.cell? ⟨w.heap.size,18,none⟩=some (.slice da p.kids.length dc)/\X.rangeAt w.heap.size 0 (p19 p ca cc ka kc da dc))) (by kernel_rfl) ?_ (fun hHeld=> ?_)
  ·
   (try dsimp only); exact KP.out _ (below_drewN (Below.refl _ _) 1)
  refine tk 0 ?_; simp only [ap];refine tk 1 ?_; simp only [ap];refine tk 2 ?_; simp only [ap];refine tu 3 ?_; simp only [ap];refine tu 4 ?_; simp only [ap];refine tu 5 ?_; simp only [ap];refine tu 6 ?_; simp only [ap];refine tu 7 ?_; simp only [ap];refine tu 8 ?_; simp only [ap];refine tu 9 ?_; simp only [ap];refine tk 10 ?_; simp only [ap];refine tk 11 ?_; simp only [ap];refine tu 12 ?_; simp only [ap];refine tu 13 ?_; simp only [ap];refine tu 14 ?_; simp only [ap];refine tk 15 ?_; simp only [ap];refine dn ?_;have HE:=hidden (below_drewN HB.out 1);clear hHeld KP;go_wp2_with fail;go_ret;exact ⟨-1,rfl,by decide,HE.out⟩
theorem l4Wide_any:∀ n,z5J n:=by
 intro n;induction n with
 | zero=>exact j3S 0 (fun m h=>by cases h)
 | succ n ih=>exact j3S (n+1) (fun m h=>by cases h; exact ih)
end Go.Proofs.YtmjaepdplbgohaaGreatDoor.Kd
namespace Go.Proofs.YtmjaepdplbgohaaGreatDoor.Kd
open Go.RowKit
theorem z3F (n:Nat) (p:Pl (n+1)) (ca ka da:Option Addr) (cc kc dc wb:Nat) (w:World) (hp:q1X (NodeAt n) w p.nd p.kids (.slice ca p.nd.cs.length cc) (.slice ka p.nd.ks.length kc) (.slice da p.kids.length dc)) (hz:Pl.sz (n+1) p<=1048576) (hwb:wb<w.heap.size) (h0:w.cell? ⟨wb,0,none⟩=some (.int .i64 2)) (h1:w.cell? ⟨wb,1,none⟩=some (.int .i64 2)) :
  Calls Tryz.prog 51 #[.agg (p19 p ca cc ka kc da dc).toArray,.slice (some ⟨wb,0,none⟩) 2 2] w fun e w'=> ∃ x:Int,e = .returned (.int .i64 x)/\Below w.heap.size w w':=by
 have HM:=hidden (l4Many_any n p ca ka da cc kc dc 6 (w.alloc (.cells (p19 p ca cc ka kc da dc).toArray 31)) (by omega) (hp.below (z1B _) fun b o y h=>NodeAt.below n h (z1B _)) hz);have HB1:Hid (Below w.heap.size w (w.alloc (.cells (p19 p ca cc ka kc da dc).toArray 31))):=z1B _;have HBX:=hidden (z1X w (p19 p ca cc ka kc da dc) rfl);have hla:(Tryz.prog.info? 31).map (·.size)=some (p19 p ca cc ka kc da dc).length:=by kernel_rfl
 have HRA:Hid ((w.alloc (.cells (p19 p ca cc ka kc da dc).toArray 31)).rangeAt w.heap.size 0 (p19 p ca cc ka kc da dc)):=HBX.out.range;have HP:=hidden hp;have H0:=hidden h0;have H1:=hidden h1;obtain ⟨M,hM⟩:∃ M,M=manyD (n+1) p 6:=⟨_,rfl⟩;rw [<-hM] at HM;clear hM hp h0 h1;by_cases hbig:10<M
 ·
  have hbI:(10:Int)<(M:Int):=by omega
  go_enter Tryz.func51,Tryz.ntmps51;go_wp2_with (first | ((with_reducible refine k1T ?_ 31 (.tmp 2) rfl w.heap.size 0 ?_ (p19 p ca cc ka kc da dc) _ HRA.out Tryz.underlying31 ?_ hla ?_); rfl; rfl; rfl) | (go_at_call 60; refine HM.out.mono ?_; rintro e w2 ⟨rfl,hb2⟩; have HB2:=hidden (z1A HB1.out hb2); clear hb2));go_ret;exact ⟨_,rfl,HB2.out⟩
 ·
  have hbI:(M:Int)<=10:=by omega
  go_enter Tryz.func51,Tryz.ntmps51;go_wp2_with (first | ((with_reducible refine k1T ?_ 31 (.tmp 2) rfl w.heap.size 0 ?_ (p19 p ca cc ka kc da dc) _ HRA.out Tryz.underlying31 ?_ hla ?_); rfl; rfl; rfl) | (go_at_call 60; refine HM.out.mono ?_; rintro e w2 ⟨rfl,hb2⟩; have HB2:=hidden (z1A HB1.out hb2); (have HR2:Hid (w2.rangeAt w.heap.size 0 (p19 p ca cc ka kc da dc)):=(HBX.out.grown (q1F hb2 none) (fun e=>by cases e)).range); clear hb2) | ((with_reducible refine wpList_load_mid rfl 31 (.tmp 2) rfl w.heap.size 0 ?_ (p19 p ca cc ka kc da dc) _ HR2.out Tryz.underlying31 ?_ hla ?_); rfl; rfl) | (go_at_call 96; refine (l4Wide_any n p ca ka da cc kc dc 6 wb _ (by omega) (HP.out.below HB2.out fun b o y h=>NodeAt.below n h HB2.out) hz (Nat.lt_of_lt_of_le hwb HB2.out.size) ((HB2.out.cell (p:=⟨wb,0,none⟩) hwb).trans H0.out) ((HB2.out.cell (p:=⟨wb,1,none⟩) hwb).trans H1.out)).mono ?_; rintro e w3 ⟨x,rfl,-,hb3⟩; have HB3:=hidden (z1A HB2.out hb3); clear hb3));go_ret;exact ⟨_,rfl,HB3.out⟩
end Go.Proofs.YtmjaepdplbgohaaGreatDoor.Kd
