/- Part of the proof of laws.FnMean: WideKinds, WideI, WideTop, KindWide, Oracles, MeanWide, MeanFacts. -/
import Derived.Test.YtmjaepdplbgohaaGreatDoorPkA
import Derived.Test.YtmjaepdplbgohaaGreatDoorPkM
import Derived.Test.YtmjaepdplbgohaaGreatDoorPkJ
import Derived.Test.YtmjaepdplbgohaaGreatDoorPkN
import Derived.Test.YtmjaepdplbgohaaGreatDoorPkI
import Derived.Test.YtmjaepdplbgohaaGreatDoorPkG
import Derived.Test.YtmjaepdplbgohaaGreatDoorPkK
import Derived.Test.YtmjaepdplbgohaaGreatDoorPkF
import Derived.Test.YtmjaepdplbgohaaGreatDoorPkL
set_option maxRecDepth 100000
set_option maxHeartbeats 16000000
set_option linter.unusedVariables false
set_option linter.unusedSimpArgs false
namespace Go.Proofs.YtmjaepdplbgohaaGreatDoor.Kd
open Go.RowKit
theorem k5F (t:Tst) (x:Int) (b off n cap:Nat) (tv:Value) (w:World) (hn:0<n) (hb:b<w.heap.size) (hc:w.cell? ⟨b,off,none⟩=some (.int .i64 x)) :
  Calls Tryz.prog 209 #[.agg (t10 t).toArray,.slice (some ⟨b,off,none⟩) n cap,tv] w fun e w'=>e = .returned (.int .i64 x)/\Below w.heap.size w w':=by
 have HB:Hid (Below w.heap.size w (w.alloc (.cells (t10 t).toArray 142))):=z1B _;have hc1:(w.alloc (.cells (t10 t).toArray 142)).cell? ⟨b,off,none⟩=some (.int .i64 x):=(HB.out.cell (p:=⟨b,off,none⟩) hb).trans hc;clear hc;go_enter Tryz.func209,Tryz.ntmps209;go_wp2_with fail;go_ret;exact ⟨rfl,HB.out⟩
theorem wideBoth (x:Int) (b off n cap:Nat) (tv:Value) (w:World) (hn:0<n) (hb:b<w.heap.size) (hc:w.cell? ⟨b,off,none⟩=some (.int .i64 x)) :
  Calls Tryz.prog 224 #[.agg #[],.slice (some ⟨b,off,none⟩) n cap,tv] w fun e w'=>e = .returned (.int .i64 x)/\Below w.heap.size w w':=by
 have HB:Hid (Below w.heap.size w (w.alloc (.cells #[] 149))):=z1B _;have hc1:(w.alloc (.cells #[] 149)).cell? ⟨b,off,none⟩=some (.int .i64 x):=(HB.out.cell (p:=⟨b,off,none⟩) hb).trans hc;clear hc;go_enter Tryz.func224,Tryz.ntmps224;go_wp2_with fail;go_ret;exact ⟨rfl,HB.out⟩
theorem wideOnce (x:Int) (b off n cap:Nat) (tv:Value) (w:World) (hn:0<n) (hb:b<w.heap.size) (hc:w.cell? ⟨b,off,none⟩=some (.int .i64 x)) :
  Calls Tryz.prog 228 #[.agg #[],.slice (some ⟨b,off,none⟩) n cap,tv] w fun e w'=>e = .returned (.int .i64 x)/\Below w.heap.size w w':=by
 have HB:Hid (Below w.heap.size w (w.alloc (.cells #[] 151))):=z1B _;have hc1:(w.alloc (.cells #[] 151)).cell? ⟨b,off,none⟩=some (.int .i64 x):=(HB.out.cell (p:=⟨b,off,none⟩) hb).trans hc;clear hc;go_enter Tryz.func228,Tryz.ntmps228;go_wp2_with fail;go_ret;exact ⟨rfl,HB.out⟩
theorem wideMap (ca:Option Addr) (nc cc:Nat) (kv tv:Value) (w:World):Calls Tryz.prog 215 #[.agg #[.slice ca nc cc],kv,tv] w fun e w'=>e = .returned (.int .i64 nc)/\Below w.heap.size w w':=by
 have HB:Hid (Below w.heap.size w (w.alloc (.cells #[.slice ca nc cc] 144))):=z1B _;go_enter Tryz.func215,Tryz.ntmps215;go_wp2_with fail;go_ret;exact ⟨rfl,HB.out⟩
theorem k5H (ka:Option Addr) (nk kc:Nat) (p q:Int) (kv tv:Value) (w:World) (hk:nk<=1048576):Calls Tryz.prog 232 #[.agg #[.slice ka nk kc,.int .i64 p,.int .i64 q],kv,tv] w fun e w'=>e = .returned (.int .i64 ((nk:Int)+1))/\Below w.heap.size w w':=by
 have HB:Hid (Below w.heap.size w (w.alloc (.cells #[.slice ka nk kc,.int .i64 p,.int .i64 q] 153))):=z1B _;go_enter Tryz.func232,Tryz.ntmps232;go_wp2_with fail;go_ret;exact ⟨rfl,HB.out⟩
theorem wideJoin (p q x y:Int) (b off n cap:Nat) (tv:Value) (w:World) (hn:1<n) (hb:b<w.heap.size) (hc:w.cell? ⟨b,off,none⟩=some (.int .i64 x)) (hd:w.cell? ⟨b,off+1,none⟩=some (.int .i64 y)) (hx:0<=x/\x<=1000) (hy:0<=y/\y<=1000) :
  Calls Tryz.prog 220 #[.agg #[.int .i64 p,.int .i64 q],.slice (some ⟨b,off,none⟩) n cap,tv] w fun e w'=>e = .returned (.int .i64 (x+y))/\Below w.heap.size w w':=by
 have HB:Hid (Below w.heap.size w (w.alloc (.cells #[.int .i64 p,.int .i64 q] 147))):=z1B _;have hc1:(w.alloc (.cells #[.int .i64 p,.int .i64 q] 147)).cell? ⟨b,off,none⟩=some (.int .i64 x):=(HB.out.cell (p:=⟨b,off,none⟩) hb).trans hc;have hd1:(w.alloc (.cells #[.int .i64 p,.int .i64 q] 147)).cell? ⟨b,off+1,none⟩=some (.int .i64 y):=(HB.out.cell (p:=⟨b,off+1,none⟩) hb).trans hd;have h0:0<n:=by omega
 have h1:(1:Int)<(n:Int):=by omega
 have hw:IntKind.i64.wrap (x+y)=x+y:=by rw [IntKind.wrap_i64]; omega
 clear hc hd;go_enter Tryz.func220,Tryz.ntmps220;go_wp2_with fail;go_quiet (fail)
 go_wp2_with fail;go_ret;exact ⟨by first | rfl | rw [hw] | simp [hw],below_drewN HB.out _⟩
theorem k5G (v x:Int) (kv:Value) (b off n cap:Nat) (w:World) (pa:Addr) (hN:NoPlan w pa) (hb:b<w.heap.size) (hc:∀ j,j<n->w.cell? ⟨b,off+j,none⟩=some (.int .i64 x)) :
  Calls Tryz.prog 204 #[.agg #[.int .i64 v],kv,.slice (some ⟨b,off,none⟩) n cap] w fun e w'=>(e = .returned (.int .i64 x)/\Below w.heap.size w w')\/(e = .panicked [{ v:=.iface 248 (.pointer (some pa)),recovered:=false }]/\Below w.heap.size w w'):=by
 have HB:Hid (Below w.heap.size w (w.alloc (.cells #[.int .i64 v] 139))):=z1B _;have HN:=hidden (hN.below HB.out);by_cases hv:0<=v/\v<(n:Int)
 ·
  obtain ⟨j,rfl⟩:∃ j:Nat,v=j:=⟨v.toNat,by omega⟩;have hj:j<n:=by omega
  have hc1:(w.alloc (.cells #[.int .i64 (j:Int)] 139)).cell? ⟨b,off+j,none⟩=some (.int .i64 x):=(HB.out.cell (p:=⟨b,off+j,none⟩) hb).trans (hc j hj);have hpl:decide (0<=(j:Int)/\(j:Int)<(n:Int))=true:=by simp; omega
  clear hc hv;go_enter Tryz.func204,Tryz.ntmps204;go_wp2_with (first | (go_at_call 75; refine (q1O _ _ _).mono ?_; rw [hpl]; rintro e w1 ⟨rfl,hw1⟩; obtain rfl:=hw1.symm) | (go_at_call 90; refine (j3L _).mono ?_; rintro e w1 ⟨rfl,hw1⟩; obtain rfl:=hw1.symm));go_ret;exact .inl ⟨rfl,HB.out⟩
 ·
  have hpl:decide (0<=v/\v<(n:Int))=false:=decide_eq_false hv;clear hc hv;go_enter Tryz.func204,Tryz.ntmps204;go_wp2_with (first | (go_at_call 75; refine (q1O _ _ _).mono ?_; rw [hpl]; rintro e w1 ⟨rfl,hw1⟩; obtain rfl:=hw1.symm) | (go_at_call 90; refine (x1B false _ pa HN.out).mono ?_; rintro e w1 (⟨h,-⟩ | ⟨-,rfl,rfl⟩); (· cases h)));exact ⟨rfl,.inr ⟨rfl,HB.out⟩⟩
end Go.Proofs.YtmjaepdplbgohaaGreatDoor.Kd
namespace Go.Proofs.YtmjaepdplbgohaaGreatDoor.Kd
open Go.RowKit Go.Shelf
attribute [local go_sem] Oper.semAt_some
def q2L (d:Nd) (xs:List Int):Int:=if d.k=1 then 2 else if d.k=3 then d.cs.length else if d.k=4 then xs.getD 0 0+xs.getD 1 0 else if d.k=7 then (d.ks.length:Int)+1 else xs.getD 0 0
def wdM:(n:Nat)->Pl n->Int
 | 0,_=>0
 | n+1,p=>q2L p.nd (p.kids.map (wdM n))
def sameW:(n:Nat)->Pl n->Prop
 | 0,_=>True
 | n+1,p=>(p.nd.k=5->(p.kids.map (wdM n)).getD 0 0=(p.kids.map (wdM n)).getD 1 0)/\∀ y∈p.kids,sameW n y
theorem z5T {n:Nat} (p:Pl (n+1)):wdM (n+1) p=q2L p.nd (p.kids.map (wdM n)):=rfl
def v4A (w:World) (base:Nat) (kv:Value) (xs:List Int):Prop:=w.ownsRow base 3 1 kv xs.length (xs.map (Value.int .i64))
def RowAt (w:World) (b:Nat) (xs:List Int):Prop:=b<w.heap.size/\∀ j,j<xs.length->w.cell? ⟨b,j,none⟩=some (.int .i64 (xs.getD j 0))
def q3X (w0:World) (pa:Addr) (ta:Option Addr) (tn tc:Nat) (okT:Tst->Bool) (okC:Cel->Bool) (okK:List Int->Bool):Prop:=
 ∀ (d:Nd) (vc vk vd:Value) (k:Nat) (w:World),Below w0.heap.size w0 w->q1J w vc d.cs->RawInts w vk d.ks->d.cs.length<=1048576->d.ks.length<=1048576->j1R okT okC okK d=some (k,true) →
  Calls Tryz.prog 58 #[.agg (z1J d vc vk vd).toArray] w fun e w2=> ∃ (T:TypeId) (y:Value) (ff fw:Nat),e = .returned (.iface T y)/\Below w.heap.size w w2/\(∀ w,(Go.method 381 T y "loop.example/milldam/impl.fits").run Tryz.prog w = .ok (ff,y) w)/\(∀ args w,(callFunc ff args).run Tryz.prog w = .ok (.enter ff args) w)/\(∀ w,(Go.method 381 T y "loop.example/milldam/impl.wide").run Tryz.prog w = .ok (fw,y) w)/\(∀ args w,(callFunc fw args).run Tryz.prog w = .ok (.enter fw args) w) ∧
   ∀ (w3:World) (b cap:Nat) (xs:List Int),Below w2.heap.size w2 w3->RowAt w3 b xs->xs.length=k->(∀ x∈xs,1<=x/\x<=6) →
    (∃ c,(c=true->d.k=5->xs.getD 0 0=xs.getD 1 0)/\Calls Tryz.prog ff #[y,.slice (some ⟨b,0,none⟩) k cap] w3 fun e w4=>e = .returned (.bool c)/\Below w3.heap.size w3 w4) ∧
    Calls Tryz.prog fw #[y,.slice (some ⟨b,0,none⟩) k cap,.slice ta tn tc] w3 fun e w4=>(e = .returned (.int .i64 (q2L d xs))/\Below w3.heap.size w3 w4)\/(e = .panicked [{ v:=.iface 248 (.pointer (some pa)),recovered:=false }]/\Below w3.heap.size w3 w4)
def x6G (w0:World) (pa:Addr) (ta:Option Addr) (tn tc:Nat) (okT:Tst->Bool) (okC:Cel->Bool) (okK:List Int->Bool) (n:Nat):Prop:=
 ∀ (p:Pl (n+1)) (ca ka da:Option Addr) (cc kc dc:Nat) (w:World),Below w0.heap.size w0 w->q1X (NodeAt n) w p.nd p.kids (.slice ca p.nd.cs.length cc) (.slice ka p.nd.ks.length kc) (.slice da p.kids.length dc)->Pl.sz (n+1) p<=1048576->(∃ deep,v1P okT okC okK (n+1) p deep=true) →
  CallsIn Fence.wide 0 Tryz.prog 46 #[.agg (p19 p ca cc ka kc da dc).toArray,.slice ta tn tc] w fun e w'=>(e = .returned (.int .i64 (wdM (n+1) p))/\(1<=wdM (n+1) p/\wdM (n+1) p<=6/\sameW (n+1) p)/\Below w.heap.size w w')\/(e = .panicked [{ v:=.iface 248 (.pointer (some pa)),recovered:=false }]/\Below w.heap.size w w')
theorem z6Z (w:World) (v:Value):∀ j u,([v]:List Value)[j]? = some u->(w.alloc (.cells #[v] 3)).cell? ((⟨w.heap.size,0,none⟩:Addr).add j)=some u:=fun j u h=>by
 match j,h with
 | 0,h=>(simp at h; subst h; exact cell_at (alloc_at _ _) rfl)
 | j+1,h=>simp at h
theorem j3B (w0:World) (pa:Addr) (hN:NoPlan w0 pa) (ta:Option Addr) (tn tc:Nat) (okT:Tst->Bool) (okC:Cel->Bool) (okK:List Int->Bool) (hK:q3X w0 pa ta tn tc okT okC okK) (n:Nat) (IH:∀ m,n=m+1->x6G w0 pa ta tn tc okT okC okK m):x6G w0 pa ta tn tc okT okC okK n:=by
 intro p ca ka da cc kc dc w hw0 hp hz hform;obtain ⟨deep,hform⟩:=hform;have HFORM:=hidden (x1M.1 hform);obtain ⟨hcs,hks,hkd⟩:=hp;have HKD:=hidden hkd;have HIH:=hidden IH;have HW0:=hidden hw0;have HN:=hidden hN;have hsz:=Pl.sz_succ p;have hlc:p.nd.cs.length<=1048576:=by omega
 have hlk:p.nd.ks.length<=1048576:=by omega
 have hln:p.kids.length<=1048576:=by omega
 obtain ⟨i0,hi,hz0,hz1,hz2⟩:=info_parts infoInt1;have hla:(Tryz.prog.info? 31).map (·.size)=some (p19 p ca cc ka kc da dc).length:=by kernel_rfl
 have HA:Hid ((w.alloc (.cells (p19 p ca cc ka kc da dc).toArray 31)).heap[w.heap.size]? = some (.cells (p19 p ca cc ka kc da dc).toArray 31)):=alloc_at _ _;have HB1:Hid (Below w.heap.size w (w.alloc (.cells (p19 p ca cc ka kc da dc).toArray 31))):=z1B _;have HR:Hid ((w.alloc (.cells (p19 p ca cc ka kc da dc).toArray 31)).rangeAt w.heap.size 0 (p19 p ca cc ka kc da dc)):=q1T HA.out;have HKC:=hidden (hK p.nd _ _ (.slice da p.kids.length dc) p.kids.length _ (z1A hw0 HB1.out) (hcs.below HB1.out) (hks.below HB1.out) hlc hlk HFORM.out.2.1);clear hcs hks hkd hK IH hw0 hform hN;refine callsIn_of_wp Tryz.func46 rfl trivial ?_ rfl;simp only [Tryz.ntmps46,List.size_toArray,List.length_cons,List.length_nil,Nat.reduceAdd,Nat.reduceSub,Array.replicate_succ,Array.replicate_zero,List.push_toArray,List.append_toArray,List.nil_append,List.cons_append];gi_wp2_with (first | refine z1S rfl 31 _ rfl w.heap.size 0 rfl _ _ HR.out Tryz.underlying31 rfl hla ?_ | ((try refine ⟨trivial,rfl,?_⟩); gi_at_call 58; refine callsIn_wide.2 (HKC.out.mono ?_); rintro e W7 ⟨T,y,ff,fw,rfl,hb7,hmf,hef,hmw,hew,hfw⟩; have HFW:=hidden hfw; have HB7:=hidden (z1A HB1.out hb7); have HA7:=hidden (z1F HA.out hb7); have HA8:=hidden (z1F HA7.out (z1B (.cells #[] 3))); have HB8:=hidden (z1A HB7.out (z1B (.cells #[] 3))); have g18:=cell_at (j:=18) HA8.out rfl; clear hfw hb7));have HO8:Hid (v4A (W7.alloc (.cells #[] 3)) W7.heap.size (.slice (some ⟨W7.heap.size,0,none⟩) 0 0) []):=World.ownsRow_lit W7 #[] 0 (Nat.le_refl _) (by unfold maxLen; omega) rfl;clear g18;gi_loopw [6,16] (fun kv i wr=> ∃ (k:Nat) (xs:List Int) (qb qc:Nat),k<=p.kids.length/\i = .int .i64 k/\kv = .slice (some ⟨qb,0,none⟩) k qc/\Hid (v4A wr W7.heap.size (.slice (some ⟨qb,0,none⟩) k qc) xs)/\Hid (xs=(p.kids.take k).map (wdM n)/\(∀ x∈xs,1<=x/\x<=6)/\∀ y∈p.kids.take k,sameW n y)/\Hid (Below W7.heap.size W7 wr)) (fun _ i _=>p.kids.length - (intOf i).toNat)
 case atStart=>exact ⟨0,[],_,0,Nat.zero_le _,rfl,rfl,HO8.out,⟨rfl,fun x hx=>(by cases hx),fun y hy=>(by simp at hy)⟩,z1B _⟩
 case round=>
  obtain ⟨k,xs,qb,qc,hk,rfl,rfl,HO,HXS,HWR⟩:=hrel;have hbw:=z1A HB7.out HWR.out;have hbox:=z1F HA7.out HWR.out;clear HO8 HA HB1 HR HA8 HB8;have hxl:xs.length=k:=by rw [HXS.out.1,List.length_map,List.length_take]; omega
  by_cases hlt:k<p.kids.length
  ·
   cases n with
   | zero=>cases p.kids[k]
   | succ m=>
   obtain ⟨_,a0,cap0,heq,-,hcs⟩:=id HKD.out;obtain ⟨kb,ko,rfl,hkb,hnode⟩:=hcs (fun h=>by rw [h] at hlt; exact absurd hlt (Nat.not_lt_zero _));obtain ⟨rfl,-,rfl⟩:da=some ⟨kb,ko,none⟩/\True/\dc=cap0:=by simpa using heq
   obtain ⟨x,HX⟩:∃ x,Hid (x=p.kids[k]):=⟨p.kids[k],Eq.refl p.kids[k]⟩;have hnd:=hnode k hlt;rw [<-HX.out] at hnd;obtain ⟨_,xc,xk,xv,hfl,hpr⟩:=hnd;obtain ⟨_,xa,xd,rfl,_⟩:=id hpr.2.2;obtain ⟨_,xca,xcc,rfl,_⟩:=id hpr.1;obtain ⟨_,xka,xkc,rfl,_⟩:=id hpr.2.1;have HRX:Hid (wr.rangeAt kb (ko+k*19) (p19 x xca xcc xka xkc xa xd)):=fun j v hv=>(hbw.cell (p:=⟨kb,ko+k*19+j,none⟩) hkb).trans (hfl.range j v hv);have hlx:(Tryz.prog.info? 31).map (·.size)=some (p19 x xca xcc xka xkc xa xd).length:=by kernel_rfl
   have hszx:Pl.sz (m+1) x<=1048576:=by
    have h1:=k1B hlt;rw [<-HX.out] at h1;unfold k1X at h1;omega
   have h1x:(p19 x xca xcc xka xkc xa xd).toArray.all (·.oneCell')=true:=by simp [Value.oneCell']
   have hix:(Tryz.prog.info? 31).map (·.size)=some (p19 x xca xcc xka xkc xa xd).toArray.size:=by kernel_rfl
   have hfx:∃ deep,v1P okT okC okK (m+1) x deep=true:=⟨_,HFORM.out.2.2 x (by rw [HX.out]; exact List.getElem_mem hlt)⟩;have HIX:=hidden (fun W5 (hb5:Below wr.heap.size wr W5)=>HIH.out m rfl x xca xka xa xcc xkc xd W5 (z1A HW0.out (z1A hbw hb5)) (hpr.below (z1A hbw hb5) fun b o y h=>NodeAt.below m h (z1A hbw hb5)) hszx hfx);have HROW:Hid (wr.ownsRow W7.heap.size 3 1 (.slice (some ⟨qb,0,none⟩) k qc) k (xs.map (Value.int .i64))):=by have h:=HO.out; unfold v4A at h; rw [hxl] at h; exact h
   have HXL:=hidden hxl;clear hnode hcs heq hfl hpr HKD hxl;gi_wp2_with (first | refine z1S rfl 31 _ rfl kb (ko+k*19) rfl _ _ HRX.out Tryz.underlying31 rfl hlx ?_ | refine z1S rfl 31 _ rfl wr.heap.size 0 rfl _ _ hr5 Tryz.underlying31 rfl hlx ?_ | (refine x1C rfl 31 _ _ rfl _ (p19 x xca xcc xka xkc xa xd).toArray _ (Eq.refl (wr.alloc _)) rfl rfl rfl hix h1x ?_; intro W5 hb5 hr5; have HB5:=hidden hb5; clear hb5) | ((try refine ⟨trivial,rfl,?_⟩); gi_at_call 46; refine (HIX.out _ HB5.out).mono ?_; rintro e W4 (⟨rfl,hwd,hb4⟩ | ⟨rfl,hb4⟩)) | (gi_at_builtin; refine wpListIn_append_own _ rfl _ _ 28 rfl W7.heap.size 3 i0 (.int .i64 0) 1 8 Tryz.underlying28 hi hz0 hz1 hz2 rfl (by decide) (.slice (some ⟨qb,0,none⟩) k qc) k (xs.map (Value.int .i64)) rfl (x1R (x1R HROW.out (z1A HB5.out hb4)) (z1B _)) ⟨W4.heap.size,0,none⟩ 1 1 [.int .i64 (wdM (m+1) x)] rfl rfl (z6Z _ _) (by simp [Value.oneCell']) (by unfold maxLen; omega) (by omega) (by have h1:=HWR.out.size; have h2:=HB5.out.size; have h3:=hb4.size; simp; omega) ?_; intro kv' W6 hown6 hgrow6 _))
   ·
    have hrw:=x1R (x1R HROW.out (z1A HB5.out hb4)) (z1B (.cells #[.int .i64 (wdM (m+1) x)] 3));have hb6:Below W7.heap.size W7 W6:=(z1A (z1A (z1A HWR.out HB5.out) hb4) (z1B _)).grown hgrow6 (by have h1:=HWR.out.size; have h2:=HB5.out.size; have h3:=hb4.size; simp; omega) (fun b hb=>(hrw.lt b hb).1);obtain ⟨g6,c6,rfl⟩:∃ g6 c6,kv' = .slice (some ⟨g6,0,none⟩) (k+1) c6:=by
     rcases hown6.2 with ⟨_,h0⟩ | ⟨g,cap,cur,hv,_⟩
     ·
      omega
     ·
      exact ⟨g,cap,hv⟩
    have hir:v4A W6 W7.heap.size (.slice (some ⟨g6,0,none⟩) (k+1) c6) (xs++[wdM (m+1) x]):=by
     unfold v4A;rw [List.length_append,HXL.out,List.map_append];exact hown6
    refine ⟨⟨k+1,xs++[wdM (m+1) x],g6,c6,by omega,rfl,rfl,hir,⟨?_,?_,?_⟩,hb6⟩,by simp [intOf]; omega⟩
    ·
     rw [List.take_succ_eq_append_getElem hlt,List.map_append,<-HXS.out.1,<-HX.out];rfl
    ·
     intro y' hy;rcases List.mem_append.1 hy with h | h
     ·
      exact HXS.out.2.1 y' h
     ·
      rw [List.mem_singleton.1 h]; exact ⟨hwd.1,hwd.2.1⟩
    ·
     intro y' hy;rw [List.take_succ_eq_append_getElem hlt] at hy;rcases List.mem_append.1 hy with h | h
     ·
      exact HXS.out.2.2 y' h
     ·
      rw [List.mem_singleton.1 h,<-HX.out]; exact hwd.2.2
   ·
    exact ⟨rfl,.inr ⟨rfl,z1A (z1A hbw HB5.out) hb4⟩⟩
  ·
   have e:k=p.kids.length:=by omega
   have hall:xs=p.kids.map (wdM n):=by have:=HXS.out.1; rwa [e,List.take_length] at this
   have hwdm:wdM (n+1) p=q2L p.nd xs:=by rw [z5T,hall]
   have hrow:RowAt wr qb xs:=by
    obtain ⟨h1,(⟨h2,_⟩ | ⟨g,cap,cur,hv,hb,hg,h3,h4,h5,h6⟩)⟩:=HO.out
    ·
     cases h2
    ·
     simp only [Value.slice.injEq,Option.some.injEq,Addr.mk.injEq] at hv;obtain ⟨⟨rfl,-,-⟩,-,rfl⟩:=hv;refine ⟨(Array.getElem?_eq_some_iff.1 hg).1,fun j hj=>cell_at hg ?_⟩;rw [<-Array.getElem?_toList];have h7:cur.toList[j]? = (xs.map (Value.int .i64))[j]?:=by rw [<-h6,List.getElem?_take_of_lt (by omega)]
     rw [h7,List.getElem?_map,List.getElem?_eq_getElem hj];simp [List.getD,hj]
   subst e;obtain ⟨WD,hWD⟩:∃ WD,WD=q2L p.nd xs:=⟨_,rfl⟩;have HFX:=hidden (fun w3 (hb:Below wr.heap.size wr w3)=>HFW.out w3 qb qc xs (z1A HWR.out hb) ⟨Nat.lt_of_lt_of_le hrow.1 hb.size,fun j hj=>(hb.cell (p:=⟨qb,j,none⟩) hrow.1).trans (hrow.2 j hj)⟩ hxl HXS.out.2.1);rw [<-hWD] at HFX;have HWD:=hidden (hwdm.trans hWD.symm);obtain ⟨⟨c,hcf,hfit⟩,-⟩:=HFX.out wr (Below.refl _ _);have HSAME:Hid (c=true->sameW (n+1) p):=fun hc=>⟨fun h5=>by rw [<-hall]; exact hcf hc h5,fun y hy=>HXS.out.2.2 y (by rw [List.take_length]; exact hy)⟩;have HFIT:=hidden hfit;have hN1:=HN.out.below (z1A HW0.out hbw);have HN1:=hidden hN1;have HBW:=hidden hbw;clear HIH HKD hall hwdm hrow HO HXS HFW HFORM HKC hfit hcf hN1 hWD hxl HA7 HB7 hbw hbox HWR;by_cases hA:1<=WD
   ·
    by_cases hB:WD<=6
    ·
     gi_wp2_with (first | ((try refine ⟨trivial,rfl,?_⟩); gi_at_call 90; (first | refine callsIn_wide.2 ((x1B _ _ pa (HN1.out.below (z1A HB9.out hb10))).mono ?_) | refine callsIn_wide.2 ((x1B _ _ pa (HN1.out.below HB9.out)).mono ?_)); rintro e w' (⟨hbt,rfl,rfl⟩ | ⟨hbt,rfl,rfl⟩)) | ((try refine ⟨trivial,rfl,?_⟩); refine callsIn_wide.2 (HFIT.out.mono ?_); rintro e W9 ⟨rfl,hb9⟩; have HB9:=hidden hb9; clear hb9 HFIT) | ((try refine ⟨trivial,rfl,?_⟩); refine callsIn_wide.2 ((HFX.out _ HB9.out).2.mono ?_); rintro e W10 (⟨rfl,hb10⟩ | ⟨rfl,hb10⟩)));all_goals first | exact ⟨rfl,.inr ⟨rfl,z1A HBW.out (z1A HB9.out hb10)⟩⟩ | exact ⟨rfl,.inr ⟨rfl,z1A HBW.out HB9.out⟩⟩ | exact absurd hbt (by decide) | exact absurd (of_decide_eq_true hbt) (by omega) | (go_ret; exact .inl ⟨by rw [HWD.out]; rfl,by rw [HWD.out]; exact ⟨hA,hB,HSAME.out (by assumption)⟩,z1A HBW.out (z1A HB9.out hb10)⟩)
    ·
     have hB':6<WD:=by omega
     gi_wp2_with (first | ((try refine ⟨trivial,rfl,?_⟩); gi_at_call 90; (first | refine callsIn_wide.2 ((x1B _ _ pa (HN1.out.below (z1A HB9.out hb10))).mono ?_) | refine callsIn_wide.2 ((x1B _ _ pa (HN1.out.below HB9.out)).mono ?_)); rintro e w' (⟨hbt,rfl,rfl⟩ | ⟨hbt,rfl,rfl⟩)) | ((try refine ⟨trivial,rfl,?_⟩); refine callsIn_wide.2 (HFIT.out.mono ?_); rintro e W9 ⟨rfl,hb9⟩; have HB9:=hidden hb9; clear hb9 HFIT) | ((try refine ⟨trivial,rfl,?_⟩); refine callsIn_wide.2 ((HFX.out _ HB9.out).2.mono ?_); rintro e W10 (⟨rfl,hb10⟩ | ⟨rfl,hb10⟩)));all_goals first | exact ⟨rfl,.inr ⟨rfl,z1A HBW.out (z1A HB9.out hb10)⟩⟩ | exact ⟨rfl,.inr ⟨rfl,z1A HBW.out HB9.out⟩⟩ | exact absurd hbt (by decide) | exact absurd (of_decide_eq_true hbt) (by omega) | (go_ret; exact .inl ⟨by rw [HWD.out]; rfl,by rw [HWD.out]; exact ⟨hA,hB,HSAME.out (by assumption)⟩,z1A HBW.out (z1A HB9.out hb10)⟩)
   ·
    have hA':WD<1:=by omega
    gi_wp2_with (first | ((try refine ⟨trivial,rfl,?_⟩); gi_at_call 90; (first | refine callsIn_wide.2 ((x1B _ _ pa (HN1.out.below (z1A HB9.out hb10))).mono ?_) | refine callsIn_wide.2 ((x1B _ _ pa (HN1.out.below HB9.out)).mono ?_)); rintro e w' (⟨hbt,rfl,rfl⟩ | ⟨hbt,rfl,rfl⟩)) | ((try refine ⟨trivial,rfl,?_⟩); refine callsIn_wide.2 (HFIT.out.mono ?_); rintro e W9 ⟨rfl,hb9⟩; have HB9:=hidden hb9; clear hb9 HFIT) | ((try refine ⟨trivial,rfl,?_⟩); refine callsIn_wide.2 ((HFX.out _ HB9.out).2.mono ?_); rintro e W10 (⟨rfl,hb10⟩ | ⟨rfl,hb10⟩)));all_goals first | exact ⟨rfl,.inr ⟨rfl,z1A HBW.out (z1A HB9.out hb10)⟩⟩ | exact ⟨rfl,.inr ⟨rfl,z1A HBW.out HB9.out⟩⟩ | exact absurd hbt (by decide) | exact absurd (of_decide_eq_true hbt) (by omega) | (go_ret; exact .inl ⟨by rw [HWD.out]; rfl,by rw [HWD.out]; exact ⟨hA,hB,HSAME.out (by assumption)⟩,z1A HBW.out (z1A HB9.out hb10)⟩)
theorem j5O (w0:World) (pa:Addr) (hN:NoPlan w0 pa) (ta:Option Addr) (tn tc:Nat) (okT:Tst->Bool) (okC:Cel->Bool) (okK:List Int->Bool) (hK:q3X w0 pa ta tn tc okT okC okK):∀ n,x6G w0 pa ta tn tc okT okC okK n:=by
 intro n;induction n with
 | zero=>exact j3B w0 pa hN ta tn tc okT okC okK hK 0 (fun m h=>by cases h)
 | succ n ih=>exact j3B w0 pa hN ta tn tc okT okC okK hK (n+1) (fun m h=>by cases h; exact ih)
end Go.Proofs.YtmjaepdplbgohaaGreatDoor.Kd
namespace Go.Proofs.YtmjaepdplbgohaaGreatDoor.Kd
open Go.RowKit Go.Shelf
theorem v4I (x y:Int) (p q pa:Addr) (Q:Prop) (w:World) (h:∀ w2,w2=(w.alloc (.cells #[.int .i64 x] 3)).alloc (.cells #[.int .i64 0] 3)->Calls Tryz.prog 44 #[.pointer (some p),.pointer (some q)] w2 fun e w'=>(e = .returned (.int .i64 y)/\Q/\Below w2.heap.size w2 w')\/(e = .panicked [{ v:=.iface 248 (.pointer (some pa)),recovered:=false }]/\Below w2.heap.size w2 w')) :
  Calls Tryz.prog 43 #[.int .i64 x,.func (.func 44) #[] #[.pointer (some p),.pointer (some q)]] w fun e w'=>((e = .returned (.int .i64 y)/\Q)\/e = .returned (.int .i64 x))/\Below w.heap.size w w':=by
 have hmf:∀ (fn:Fn) (first cap:Array Value) (w:World),(Instr.makeFunc fn first cap).run Tryz.prog w = .ok (.func fn first cap) w:=fun _ _ _ _=>rfl;go_enter_defers Tryz.func43,Tryz.ntmps43;go_wp2_with fail;refine (h _ rfl).mono ?_;rintro e w1 (⟨rfl,hq,hb⟩ | ⟨rfl,hb⟩)
 ·
  have HQ:=hidden hq;clear hq;obtain ⟨hx,hc,hz,hw⟩:=k3U hb;have HW:Hid (Below w.heap.size w w1):=hw;clear hb hw;go_wp2_with fail;refine leaves_cons (f:=88) (args:=#[.pointer (some ⟨w.heap.size,0,none⟩),.pointer (some ⟨w.heap.size+1,0,none⟩)]) (by simp) (by simp [go_sem]) ?_;refine (k3N _ _ _).mono ?_;rintro e u' w'' ⟨rfl,rfl,rfl⟩;have hs:(w1.setCell ⟨w.heap.size+1,0,none⟩ (.int .i64 y)).cell? ⟨w.heap.size+1,0,none⟩=some (.int .i64 y):=by simp [go_sem,hc]
  simp [Leaves,settle,results,Tryz.results43,go_sem,hs,hc];exact ⟨.inl HQ.out,HW.out.setCell (Nat.le_succ _) _⟩
 ·
  obtain ⟨hx,hc,hz,hw⟩:=k3U hb;have HW:Hid (Below w.heap.size w w1):=hw;clear hb hw;refine leaves_cons (f:=88) (args:=#[.pointer (some ⟨w.heap.size,0,none⟩),.pointer (some ⟨w.heap.size+1,0,none⟩)]) (by simp) (by simp [go_sem]) ?_;refine (k3O _ _ x 0 _ _ [] _ hx hc hz).mono ?_;rintro e u' w'' ⟨rfl,rfl,rfl⟩;have hs:(w1.setCell ⟨w.heap.size+1,0,none⟩ (.int .i64 x)).cell? ⟨w.heap.size+1,0,none⟩=some (.int .i64 x):=by simp [go_sem,hc]
  simp [Leaves,settle,results,Tryz.results43,go_sem,hs,hc];exact HW.out.setCell (Nat.le_succ _) _
theorem j4O (n:Nat) (p:Pl (n+1)) (ca ka da:Option Addr) (cc kc dc:Nat) (w:World) (hp:q1X (NodeAt n) w p.nd p.kids (.slice ca p.nd.cs.length cc) (.slice ka p.nd.ks.length kc) (.slice da p.kids.length dc)) (hz:Pl.sz (n+1) p<=1048576) (hn:n<=1048576) (pa:Addr) (hN:NoPlan w pa) (okT:Tst->Bool) (okC:Cel->Bool) (okK:List Int->Bool) (hO:z3C w okT okC okK) (hcan:q3V okT okC okK (n+1) p=true) (ta:Option Addr) (tn tc:Nat) (h3:tn<=3) (hK:q3X w pa ta tn tc okT okC okK) :
  Calls Tryz.prog 14 #[.agg (p19 p ca cc ka kc da dc).toArray,.slice ta tn tc] w fun e w'=>(e = .returned (.int .i64 (wdM (n+1) p))/\(1<=wdM (n+1) p/\wdM (n+1) p<=6/\sameW (n+1) p)/\Below w.heap.size w w')\/(e = .returned (.int .i64 (-1))/\Below w.heap.size w w'):=by
 have hla:(Tryz.prog.info? 31).map (·.size)=some (p19 p ca cc ka kc da dc).length:=by kernel_rfl
 have hmf:∀ (fn:Fn) (first cap:Array Value) (w:World),(Instr.makeFunc fn first cap).run Tryz.prog w = .ok (.func fn first cap) w:=fun _ _ _ _=>rfl;have h3':(tn:Int)<=3:=by omega
 obtain ⟨hA1,hA2,hB2⟩:=two w (.cells (p19 p ca cc ka kc da dc).toArray 31) (.cells #[.slice ta tn tc] 28);have HA1:=hidden hA1;have HA2:=hidden hA2;have HB2:=hidden hB2;clear hA1 hA2 hB2;have hwork:∀ w2,Below w.heap.size w w2->w2.heap[w.heap.size]? = some (.cells (p19 p ca cc ka kc da dc).toArray 31)->w2.heap[w.heap.size+1]? = some (.cells #[.slice ta tn tc] 28)->Calls Tryz.prog 44 #[.pointer (some ⟨w.heap.size,0,none⟩),.pointer (some ⟨w.heap.size+1,0,none⟩)] w2 fun e w'=>(e = .returned (.int .i64 (wdM (n+1) p))/\(1<=wdM (n+1) p/\wdM (n+1) p<=6/\sameW (n+1) p)/\Below w2.heap.size w2 w')\/(e = .panicked [{ v:=.iface 248 (.pointer (some pa)),recovered:=false }]/\Below w2.heap.size w2 w'):=by
  intro w2 hb2 ha1 ha2;have HB:=hidden hb2;have HX1:=hidden ha1;have HX2:=hidden ha2;have HR:=hidden (q1T ha1);have hmw:=mustW n p _ _ da dc w2 (hp.below hb2 fun b o x h=>NodeAt.below n h hb2) hz hn pa (hN.below hb2) okT okC okK (hO.below hb2);rw [q5C,if_pos hcan] at hmw;have HMW:=hidden hmw;have HWO:=hidden (fun w3 (hb3:Below w.heap.size w w3)=>callsIn_wide.1 (j5O w pa hN ta tn tc okT okC okK hK n p ca ka da cc kc dc w3 hb3 (hp.below hb3 fun b o x h=>NodeAt.below n h hb3) hz ⟨6,by have hc:=hcan; simp only [q3V,Bool.and_eq_true] at hc; exact hc.1⟩));clear ha1 ha2 hb2 hp hz hn hN hO hK hmw;go_enter Tryz.func44,Tryz.ntmps44;go_wp2_with (first | refine wpList_load_mid rfl 31 _ rfl w.heap.size 0 rfl _ _ HR.out Tryz.underlying31 rfl hla ?_ | refine wpList_load_mid rfl 31 _ rfl w.heap.size 0 rfl _ _ HR3.out Tryz.underlying31 rfl hla ?_ | (go_at_call 45; refine HMW.out.mono ?_; rintro e w3 (⟨c,-,rfl,hb3⟩ | ⟨h,-⟩); rotate_left 1; (· cases h); have HB3:=hidden hb3; have HR3:=hidden (q1T (z1F HX1.out hb3)); have g3:=cell_at (j:=0) (z1F HX2.out hb3) rfl; clear hb3) | (go_at_call 46; refine (HWO.out _ (z1A HB.out HB3.out)).mono ?_; rintro e w4 (⟨rfl,hwd,hb4⟩ | ⟨rfl,hb4⟩)));all_goals first | exact ⟨rfl,.inr ⟨rfl,z1A HB3.out hb4⟩⟩ | (go_ret; exact .inl ⟨rfl,hwd,z1A HB3.out hb4⟩)
 have HWORK:=hidden hwork;clear hp hz hn hN hO hK hwork hcan;have g2:=cell_at (j:=0) HA2.out rfl;go_enter Tryz.func14,Tryz.ntmps14;go_wp2_with fail;refine (v4I (-1) (wdM (n+1) p) ⟨w.heap.size,0,none⟩ ⟨w.heap.size+1,0,none⟩ pa (1<=wdM (n+1) p/\wdM (n+1) p<=6/\sameW (n+1) p) _ fun w2 e2=> ?_).mono ?_
 ·
  subst e2;exact HWORK.out _ (z1A HB2.out (two _ _ _).2.2) (z1F HA1.out (two _ _ _).2.2) (z1F HA2.out (two _ _ _).2.2)
 rintro e w1 ⟨(⟨rfl,hq⟩ | rfl),hb⟩
 ·
  have HB:Hid (Below w.heap.size w w1):=z1A HB2.out hb;clear hb;go_wp2_with fail;go_ret;exact .inl ⟨rfl,hq,HB.out⟩
 ·
  have HB:Hid (Below w.heap.size w w1):=z1A HB2.out hb;clear hb;go_wp2_with fail;go_ret;exact .inr ⟨rfl,HB.out⟩
def x6H (w:World) (okT:Int->Tst->Bool) (okC:Int->Cel->Bool) (okK:Int->List Int->Bool):Prop:=
 (∀ (x:Int) (t:Tst) (w':World),Below w.heap.size w w'->Calls Tryz.prog 210 #[.agg (t10 t).toArray,.int .i64 x] w' fun e w''=>e = .returned (.bool (okT x t))/\Below w'.heap.size w' w'') ∧
 (∀ (x:Int) (c:Cel) (w':World),Below w.heap.size w w'->Calls Tryz.prog 211 #[.agg #[.int .i64 c.k,.int .i64 c.a,.int .i64 c.b,.int .i64 c.n],.int .i64 x] w' fun e w''=>e = .returned (.bool (okC x c))/\Below w'.heap.size w' w'') ∧
 ∀ (x:Int) (ks:List Int) (v:Value) (w':World),Below w.heap.size w w'->RawInts w' v ks->ks.length<=140737488355328->Calls Tryz.prog 36 #[v,.int .i64 x] w' fun e w''=>e = .returned (.bool (okK x ks))/\Below w'.heap.size w' w''
theorem mWide1 (v:Value) (w:World):(Go.method 381 139 v "loop.example/milldam/impl.wide").run Tryz.prog w = .ok (204,v) w:=by kernel_rfl
theorem mWide2 (v:Value) (w:World):(Go.method 381 142 v "loop.example/milldam/impl.wide").run Tryz.prog w = .ok (209,v) w:=by kernel_rfl
theorem mWide3 (v:Value) (w:World):(Go.method 381 144 v "loop.example/milldam/impl.wide").run Tryz.prog w = .ok (215,v) w:=by kernel_rfl
theorem mWide4 (v:Value) (w:World):(Go.method 381 147 v "loop.example/milldam/impl.wide").run Tryz.prog w = .ok (220,v) w:=by kernel_rfl
theorem mWide5 (v:Value) (w:World):(Go.method 381 149 v "loop.example/milldam/impl.wide").run Tryz.prog w = .ok (224,v) w:=by kernel_rfl
theorem mWide6 (v:Value) (w:World):(Go.method 381 151 v "loop.example/milldam/impl.wide").run Tryz.prog w = .ok (228,v) w:=by kernel_rfl
theorem mWide7 (v:Value) (w:World):(Go.method 381 153 v "loop.example/milldam/impl.wide").run Tryz.prog w = .ok (232,v) w:=by kernel_rfl
theorem j6M (xs:List Int) (j:Nat) (h:j<xs.length):xs.getD j 0∈xs:=by simp [List.getD,h]
theorem x4C (w0:World) (pa:Addr) (hN:NoPlan w0 pa) (tb tq tn tc:Nat) (htb:tb<w0.heap.size) (ht:∀ j,j<tn->w0.cell? ⟨tb,tq+j,none⟩=some (.int .i64 2)) (okT:Int->Tst->Bool) (okC:Int->Cel->Bool) (okK:Int->List Int->Bool) (hO:x6H w0 okT okC okK):q3X w0 pa (some ⟨tb,tq,none⟩) tn tc (okT 6) (okC 6) (okK 6):=by
 intro d vc vk vd k w hw hc hk hl1 hl3 hix;obtain ⟨_,ca,cc,rfl,hcn,hcx⟩:=id hc;obtain ⟨_,ka,kc,rfl,hkn,hkx⟩:=id hk;unfold j1R at hix;by_cases e1:d.eqB (q2H d)=true
 ·
  rw [if_pos e1] at hix;obtain ⟨rfl,-⟩:=Prod.mk.inj (Option.some.inj hix);have hd:=Nd.eqB_iff.1 e1;have hdk:d.k=1:=congrArg Nd.k hd;refine (k4N d ca ka _ cc _ kc vd w hc hk (by omega) (by omega) hd).mono ?_;rintro e w1 ⟨⟨v,rfl,rfl⟩,hb1⟩;refine ⟨_,_,201,204,rfl,hb1,mFits1 _,enters_of Tryz.func201 (by kernel_rfl) rfl,mWide1 _,enters_of Tryz.func204 (by kernel_rfl) rfl,?_⟩;intro w3 b cap xs hb hr hl hx;have hf:q2L d xs=2:=by simp [q2L,hdk]
  rw [hf];exact ⟨⟨_,fun _ h=>absurd (hdk.symm.trans h) (by decide),k2S d.n _ w3⟩,k5G d.n 2 _ tb tq tn tc w3 pa (hN.below (z1A hw (z1A hb1 hb))) (Nat.lt_of_lt_of_le htb (z1A hw (z1A hb1 hb)).size) (fun j hj=>((z1A hw (z1A hb1 hb)).cell (p:=⟨tb,tq+j,none⟩) htb).trans (ht j hj))⟩
 rw [if_neg e1] at hix;by_cases e2:d.eqB (q2G d)=true
 ·
  rw [if_pos e2] at hix;obtain ⟨rfl,-⟩:=Prod.mk.inj (Option.some.inj hix);have hd:=Nd.eqB_iff.1 e2;have hdk:d.k=2:=congrArg Nd.k hd;refine (k4M d ca ka _ cc _ kc vd w hc hk (by omega) (by omega) hd).mono ?_;rintro e w1 ⟨⟨v,rfl,rfl⟩,hb1⟩;refine ⟨_,_,206,209,rfl,hb1,mFits2 _,enters_of Tryz.func206 (by kernel_rfl) rfl,mWide2 _,enters_of Tryz.func209 (by kernel_rfl) rfl,?_⟩;intro w3 b cap xs hb hr hl hx;have hf:q2L d xs=xs.getD 0 0:=by simp [q2L,hdk]
  rw [hf];exact ⟨⟨_,fun _ h=>absurd (hdk.symm.trans h) (by decide),k2R d.t (xs.getD 0 0) 0 b 0 cap w3 hr.1 (hr.2 0 (by omega)) (okT (xs.getD 0 0) d.t) (fun w' h=>hO.1 _ d.t w' (z1A hw (z1A hb1 (z1A hb h))))⟩,(k5F d.t (xs.getD 0 0) b 0 _ cap _ w3 (by omega) hr.1 (hr.2 0 (by omega))).mono fun e w' h=> .inl h⟩
 rw [if_neg e2] at hix;by_cases e3:d.eqB (q2F d)=true
 ·
  rw [if_pos e3] at hix;obtain ⟨rfl,-⟩:=Prod.mk.inj (Option.some.inj hix);have hd:=Nd.eqB_iff.1 e3;have hdk:d.k=3:=congrArg Nd.k hd;refine (k4L d ca ka _ cc _ kc vd w hc hk (by omega) (by omega) hd).mono ?_;rintro e w1 ⟨⟨v,rfl,rfl⟩,hb1⟩;refine ⟨_,_,212,215,rfl,hb1,mFits3 _,enters_of Tryz.func212 (by kernel_rfl) rfl,mWide3 _,enters_of Tryz.func215 (by kernel_rfl) rfl,?_⟩;intro w3 b cap xs hb hr hl hx;have hf:q2L d xs=(d.cs.length:Int):=by simp [q2L,hdk]
  rw [hf];refine ⟨?_,(wideMap ca _ cc _ _ w3).mono fun e w' h=> .inl h⟩;by_cases h16:1<=d.cs.length/\d.cs.length<=6
  ·
   obtain ⟨cb,co,rfl,hcb,hcc⟩:=hcx (fun h=>by rw [h] at h16; exact absurd h16.1 (by decide));exact ⟨_,fun _ h=>absurd (hdk.symm.trans h) (by decide),z3Z d.cs cb co cc _ (xs.getD 0 0) b 0 cap (okC (xs.getD 0 0)) w3 h16.1 h16.2 rfl (Nat.lt_of_lt_of_le hcb (z1A hb1 hb).size) (fun j hj=>(hcc j hj).below (z1A hb1 hb) hcb) hr.1 (hr.2 0 (by omega)) (fun c w' h=>hO.2.1 _ c w' (z1A hw (z1A hb1 (z1A hb h))))⟩
  ·
   exact ⟨_,fun _ h=>absurd (hdk.symm.trans h) (by decide),x3H ca _ cc _ w3 (by omega)⟩
 rw [if_neg e3] at hix;by_cases e4:d.eqB (q2E d)=true
 ·
  rw [if_pos e4] at hix;obtain ⟨rfl,-⟩:=Prod.mk.inj (Option.some.inj hix);have hd:=Nd.eqB_iff.1 e4;have hdk:d.k=4:=congrArg Nd.k hd;refine (k4K d ca ka _ cc _ kc vd w hc hk (by omega) (by omega) hd).mono ?_;rintro e w1 ⟨⟨v,rfl,rfl⟩,hb1⟩;refine ⟨_,_,217,220,rfl,hb1,mFits4 _,enters_of Tryz.func217 (by kernel_rfl) rfl,mWide4 _,enters_of Tryz.func220 (by kernel_rfl) rfl,?_⟩;intro w3 b cap xs hb hr hl hx;have hf:q2L d xs=xs.getD 0 0+xs.getD 1 0:=by simp [q2L,hdk]
  rw [hf];exact ⟨⟨_,fun _ h=>absurd (hdk.symm.trans h) (by decide),q3A d.a d.b (xs.getD 0 0) (xs.getD 1 0) b 0 cap w3 hr.1 (hr.2 0 (by omega)) (hr.2 1 (by omega))⟩,(wideJoin d.a d.b (xs.getD 0 0) (xs.getD 1 0) b 0 _ cap _ w3 (by omega) hr.1 (hr.2 0 (by omega)) (hr.2 1 (by omega)) (by have:=hx _ (j6M xs 0 (by omega)); omega) (by have:=hx _ (j6M xs 1 (by omega)); omega)).mono fun e w' h=> .inl h⟩
 rw [if_neg e4] at hix;by_cases e5:d.eqB (q2D d)=true
 ·
  rw [if_pos e5] at hix;obtain ⟨rfl,-⟩:=Prod.mk.inj (Option.some.inj hix);have hd:=Nd.eqB_iff.1 e5;have hdk:d.k=5:=congrArg Nd.k hd;refine (k4J d ca ka _ cc _ kc vd w hc hk (by omega) (by omega) hd).mono ?_;rintro e w1 ⟨⟨v,rfl,rfl⟩,hb1⟩;refine ⟨_,_,221,224,rfl,hb1,mFits5 _,enters_of Tryz.func221 (by kernel_rfl) rfl,mWide5 _,enters_of Tryz.func224 (by kernel_rfl) rfl,?_⟩;intro w3 b cap xs hb hr hl hx;have hf:q2L d xs=xs.getD 0 0:=by simp [q2L,hdk]
  rw [hf];exact ⟨⟨_,fun h _=>eq_of_beq h,q3B (xs.getD 0 0) (xs.getD 1 0) b 0 cap w3 hr.1 (hr.2 0 (by omega)) (hr.2 1 (by omega))⟩,(wideBoth (xs.getD 0 0) b 0 _ cap _ w3 (by omega) hr.1 (hr.2 0 (by omega))).mono fun e w' h=> .inl h⟩
 rw [if_neg e5] at hix;by_cases e6:d.eqB (q2C d)=true
 ·
  rw [if_pos e6] at hix;obtain ⟨rfl,-⟩:=Prod.mk.inj (Option.some.inj hix);have hd:=Nd.eqB_iff.1 e6;have hdk:d.k=6:=congrArg Nd.k hd;refine (k4I d ca ka _ cc _ kc vd w hc hk (by omega) (by omega) hd).mono ?_;rintro e w1 ⟨⟨v,rfl,rfl⟩,hb1⟩;refine ⟨_,_,225,228,rfl,hb1,mFits6 _,enters_of Tryz.func225 (by kernel_rfl) rfl,mWide6 _,enters_of Tryz.func228 (by kernel_rfl) rfl,?_⟩;intro w3 b cap xs hb hr hl hx;have hf:q2L d xs=xs.getD 0 0:=by simp [q2L,hdk]
  rw [hf];exact ⟨⟨_,fun _ h=>absurd (hdk.symm.trans h) (by decide),z3Y _ w3⟩,(wideOnce (xs.getD 0 0) b 0 _ cap _ w3 (by omega) hr.1 (hr.2 0 (by omega))).mono fun e w' h=> .inl h⟩
 rw [if_neg e6] at hix;by_cases e7:d.eqB (q2O d)=true
 ·
  rw [if_pos e7] at hix;obtain ⟨rfl,-⟩:=Prod.mk.inj (Option.some.inj hix);have hd:=Nd.eqB_iff.1 e7;have hdk:d.k=7:=congrArg Nd.k hd;refine (k4H d ca ka _ cc _ kc vd w hc hk (by omega) (by omega) hd).mono ?_;rintro e w1 ⟨⟨v,rfl,rfl⟩,hb1⟩;refine ⟨_,_,229,232,rfl,hb1,mFits7 _,enters_of Tryz.func229 (by kernel_rfl) rfl,mWide7 _,enters_of Tryz.func232 (by kernel_rfl) rfl,?_⟩;intro w3 b cap xs hb hr hl hx;have hf:q2L d xs=(d.ks.length:Int)+1:=by simp [q2L,hdk]
  rw [hf];exact ⟨⟨_,fun _ h=>absurd (hdk.symm.trans h) (by decide),k2T ka _ kc d.g d.c (xs.getD 0 0) 0 b 0 cap w3 hr.1 (hr.2 0 (by omega)) (okK (xs.getD 0 0) d.ks) (fun w' h=>hO.2.2 _ d.ks _ w' (z1A hw (z1A hb1 (z1A hb h))) ((hk.below hb1).below hb |>.below h) (by omega))⟩,(k5H ka _ kc d.g d.c _ _ w3 hl3).mono fun e w' h=> .inl h⟩
 rw [if_neg e7] at hix;cases hix
end Go.Proofs.YtmjaepdplbgohaaGreatDoor.Kd
namespace Go.Proofs.YtmjaepdplbgohaaGreatDoor.Kd
open Go.RowKit
theorem RawInts.tail {w:World} {v:Value} {xs:List Int} (h:RawInts w v xs) (hl:xs.length<=140737488355328):v5V w v xs:=by
 have hi:=h.ints hl;obtain ⟨_,a,cap,e,_,_,h1,h2⟩:=h;exact ⟨hi,a,cap,e,h1,h2⟩
theorem q1J.cels {w:World} {v:Value} {cs:List Cel} (h:q1J w v cs):q2Z w v cs:=by
 obtain ⟨_,a,cap,e,_,hc⟩:=h;refine ⟨a,cap,e,fun hne=> ?_⟩;obtain ⟨b,off,e2,hb,hcell⟩:=hc hne;exact ⟨b,off,e2,hb,fun j hj=>hcell j hj⟩
theorem v4F {w:World} {p:Addr} (hs:v1J w p):x6H w (fun x t=>t.okB x) (fun x c=>c.okB x) (fun x ks=>v1N ks x):=
 ⟨fun x t w' hb=>v3G t x w' p (hs.below hb),fun x c w' hb=>q1R c x w' p (hs.below hb),
 fun x ks v w' hb h hl=>(j2M v ks x w' (h.tail hl)).mono (by rintro e w2 ⟨rfl,rfl⟩; exact ⟨rfl,Below.refl _ _⟩)⟩
theorem sOracle (w:World):x3R w (fun t=>t.okB 6) (fun c=>c.okB 6) (fun ks=>v1N ks 6):=
 ⟨fun t w' _=>q1Q t 6 w',fun cs v w' _ h hl=>j3X v cs 6 w' h.cels hl,
 fun ks v w' _ h hl=>v1H v ks 6 w' (h.ints (by omega)) (by decide),
 fun a b w' hb=>(q4I a b w' hb).mono (by rintro e w2 ⟨rfl,rfl⟩; exact ⟨rfl,rfl⟩)⟩
def j1X (t:Tst) (z:List It):Told:=(x1W t z,q1S t z)
def v2Y (cs:List Cel) (z:List It):Told:=(v2E cs z,z2O cs z)
def v1W (y z:List It) (a b:Int):Told:=(z2Q y z a b,v1O y z a b)
def v2Z (y z:List It):Told:=(j2O y z,v1M y z)
def v2L (z:List It):List It:=if q1G z then z3J z else []
def j1Y (z:List It) (ks:List Int) (g c:Int):Told:=(k1E z ks g c,z2R z ks g c)
theorem q6M {w:World} {p:Addr} (hs:v1J w p) (ht:Tab w):z5O w j1X v2Y v1W v2Z v2L j1Y:=
 ⟨fun t v z w' hb h=>z4Y v z t w' p (hs.below hb) h.items,
 fun cs u v z w' hb h hc _=>k4X v u z cs w' p (hs.below hb) h.items hc.cels,
 fun v u y z a b w' hb h h2=>x4O v u y z a b w' h.items h2.items,
 fun v u y z w' hb h h2=>x4M v u y z w' h h2,
 fun v z w' hb h=>x4J v z w' h.items,
 fun ks u v z g c w' hb h hk hl=>q4A v u z ks g c w' (ht.below hb) h.items (hk.tail (by omega))⟩
theorem smOracle (w:World):q3W w j1X v2Y v1W v2Z v2L j1Y:=
 ⟨fun t v z w' hb h=>k3Y v z t w' h.items,
 fun cs u v z w' hb h hc _=>v4P v u z cs w' h.items hc.cels,
 fun v u y z a b w' hb h h2=>j4C v u y z a b w' h.items h2.items,
 fun v u y z w' hb h h2=>j4A v u y z w' h.items h2.items,
 fun v z w' hb h=>q4W v z w' h.items,
 fun ks u v z g c w' hb h hk hl=>z4A v u z ks g c w' h.items (hk.ints (by omega))⟩
end Go.Proofs.YtmjaepdplbgohaaGreatDoor.Kd
namespace Go.Proofs.YtmjaepdplbgohaaGreatDoor.Kd
theorem put_rows {x:It} {zs:List It} {r:List Int} {y:Int} (h:x∈putZ zs r y):(∃ p∈zs,x.1=p.1)\/x.1=r:=by
 rcases z3A (b:=[(r,y)]) (a:=zs) h with h | ⟨p,hp,e⟩
 ·
  exact .inl h
 ·
  rw [List.mem_singleton.1 hp] at e; exact .inr e
theorem k3K (R:It->List Int):∀ (zs:List It) (out:List It) (q:It),q∈zs.foldl (v4E R) out->(∃ p∈out,q.1=p.1)\/∃ p,q.1=R p
 | [],out,q,h=> .inl ⟨q,h,rfl⟩
 | p :: zs,out,q,h=>by
  rcases k3K R zs (v4E R out p) q h with ⟨p',h1,e⟩ | h
  ·
   unfold v4E at h1;split at h1
   ·
    exact .inl ⟨p',h1,e⟩
   ·
    split at h1
    ·
     rcases put_rows h1 with ⟨p2,h2,e2⟩ | h2
     ·
      exact .inl ⟨p2,h2,e.trans e2⟩
     ·
      exact .inr ⟨p,e.trans h2⟩
    ·
     exact .inl ⟨p',h1,e⟩
  ·
   exact .inr h
theorem j5G {x:It} {b:List It} (h:x∈j1L [] b):∃ p∈b,x.1=p.1:=by
 rcases z3A h with ⟨p,hp,_⟩ | h
 ·
  cases hp
 ·
  exact h
theorem q5O {α β:Type} (f:α->Option β):∀ (l:List α) (ys:List β),l.mapM f=some ys->∀ (j:Nat) (x:α) (y:β),l[j]? = some x->ys[j]? = some y->f x=some y:=by
 intro l;induction l with
 | nil=>intro ys h j x y h1; simp at h1
 | cons a l ih=>
  intro ys h j x y h1 h2;rw [List.mapM_cons] at h;cases ha:f a with
  | none=>rw [ha] at h; simp at h
  | some b=>
   cases hl:l.mapM f with
   | none=>rw [ha,hl] at h; simp at h
   | some bs=>
    rw [ha,hl] at h;simp at h;subst h;cases j with
    | zero=>simp at h1 h2; subst h1 h2; exact ha
    | succ j=>simp at h1 h2; exact ih bs hl j x y h1 h2
theorem q6E {ts:List (List It)} (h2:∀ j,q1G (ts.getD j [])=true->∀ p∈ts.getD j [],p.1.length=2) (okT:Tst->Bool) (okC:Cel->Bool) (okK:List Int->Bool) :
  ∀ (n:Nat) (p:Pl n) (deep:Nat) (z:List It),v1P okT okC okK n p deep=true->sameW n p->x1I (j1V ts j1X v2Y v1W v2Z v2L j1Y) n p=some z->∀ q∈z,(q.1.length:Int)=wdM n p:=by
 intro n;induction n with
 | zero=>intro p deep z _ _ h; cases h
 | succ n ih=>
  intro p deep z hf hs hm q hq;obtain ⟨_,hix,hfk⟩:=x1M.1 hf;have hkk:=((z2P okT okC okK p.nd _).1 hix).1;obtain ⟨hs5,hsk⟩:=hs;rw [z2H] at hm;cases hks:p.kids.mapM (x1I (j1V ts j1X v2Y v1W v2Z v2L j1Y) n) with
  | none=>rw [hks] at hm; cases hm
  | some ks=>
   rw [hks] at hm;have hlen:=z2B _ _ _ hks;have hw:∀ j,∀ q∈ks.getD j [],(q.1.length:Int)=(p.kids.map (wdM n)).getD j 0:=by
    intro j q hq;by_cases hj:j<ks.length
    ·
     have hj2:j<p.kids.length:=by omega
     have e1:p.kids[j]? = some p.kids[j]:=List.getElem?_eq_getElem hj2;have e2:ks[j]? = some ks[j]:=List.getElem?_eq_getElem hj;have hq':q∈ks[j]:=by rw [List.getD_eq_getElem?_getD,e2] at hq; exact hq
     have:=ih p.kids[j] (deep - 1) ks[j] (hfk _ (List.getElem_mem hj2)) (hsk _ (List.getElem_mem hj2)) (q5O _ _ _ hks j _ _ e1 e2) q hq';rw [this,List.getD_eq_getElem?_getD,List.getElem?_map,e1];rfl
    ·
     rw [List.getD_eq_getElem?_getD,List.getElem?_eq_none (by omega)] at hq;cases hq
   clear hks ih hfk hsk hf hlen;rw [z5T];generalize p.kids.map (wdM n)=xs at hw hs5 ⊢;have hz:(j1V ts j1X v2Y v1W v2Z v2L j1Y p.nd ks).2=z:=by
    have hm':(if (j1V ts j1X v2Y v1W v2Z v2L j1Y p.nd ks).1=true then some (j1V ts j1X v2Y v1W v2Z v2L j1Y p.nd ks).2 else none)=some z:=hm;split at hm'
    ·
     exact Option.some.inj hm'
    ·
     cases hm'
   clear hm;rw [<-hz] at hq;clear hz;unfold j1V at hq;unfold q2L;by_cases k1:p.nd.k=1
   ·
    rw [if_pos k1] at hq ⊢;unfold v4L at hq;split at hq
    ·
     rename_i hc;rw [h2 _ hc.2.2 q hq]; rfl
    ·
     cases hq
   rw [if_neg k1] at hq ⊢;by_cases k2:p.nd.k=2
   ·
    rw [if_pos k2] at hq;rw [if_neg (by omega),if_neg (by omega),if_neg (by omega)];have hq':q∈q1S p.nd.t (ks.getD 0 []):=hq;unfold q1S at hq';split at hq'
    ·
     exact hw 0 q (List.mem_filter.1 hq').1
    ·
     cases hq'
   rw [if_neg k2] at hq;by_cases k3:p.nd.k=3
   ·
    rw [if_pos k3] at hq ⊢;have hq':q∈z2O p.nd.cs (ks.getD 0 []):=hq;unfold z2O at hq';split at hq'
    ·
     obtain ⟨p1,h1,e⟩:=j5G hq';obtain ⟨p2,_,rfl⟩:=List.mem_map.1 h1;rw [e];simp [v2R]
    ·
     cases hq'
   rw [if_neg k3] at hq ⊢;by_cases k4:p.nd.k=4
   ·
    rw [if_pos k4] at hq ⊢;have hq':q∈v1O (ks.getD 0 []) (ks.getD 1 []) p.nd.a p.nd.b:=hq;unfold v1O at hq';split at hq'
    ·
     obtain ⟨p1,h1,e⟩:=j5G hq';obtain ⟨a,ha,hb⟩:=List.mem_flatMap.1 h1;obtain ⟨b,hbm,rfl⟩:=List.mem_map.1 hb;have h3:=hw 0 a ha;have h4:=hw 1 b (List.mem_filter.1 hbm).1;rw [e,<-h3,<-h4];simp
    ·
     cases hq'
   rw [if_neg k4] at hq ⊢;by_cases k5:p.nd.k=5
   ·
    rw [if_pos k5] at hq;rw [if_neg (by omega)];have hq':q∈v1M (ks.getD 0 []) (ks.getD 1 []):=hq;unfold v1M at hq';split at hq'
    ·
     rcases z3A hq' with ⟨a,ha,e⟩ | ⟨b,hb,e⟩
     ·
      rw [e]; exact hw 0 a ha
     ·
      rw [e,hs5 k5]; exact hw 1 b hb
    ·
     cases hq'
   rw [if_neg k5] at hq;by_cases k6:p.nd.k=6
   ·
    rw [if_pos k6] at hq;rw [if_neg (by omega)];have hq':q∈v2L (ks.getD 0 []):=hq;unfold v2L at hq';split at hq'
    ·
     obtain ⟨a,ha,rfl⟩:=List.mem_map.1 hq';exact hw 0 a (List.mem_filter.1 ha).1
    ·
     cases hq'
   rw [if_neg k6] at hq;have k7:p.nd.k=7:=by
    unfold x1Z at hkk;rw [if_neg k1] at hkk;by_cases h7:p.nd.k=7
    ·
     exact h7
    ·
     rw [if_neg (by omega),if_neg (by omega)] at hkk;omega
   rw [if_pos k7];have hq':q∈z2R (ks.getD 0 []) p.nd.ks p.nd.g p.nd.c:=hq;unfold z2R at hq';split at hq'
   ·
    rcases k3K _ _ _ _ hq' with ⟨a,ha,_⟩ | ⟨a,e⟩
    ·
     cases ha
    ·
     rw [e];simp [v2I,k1M]
   ·
    cases hq'
theorem fk_right {ts:List (List It)} {d:Nd} {ks:List (List It)} (h:(j1V ts j1X v2Y v1W v2Z v2L j1Y d ks).1=true):q1G (j1V ts j1X v2Y v1W v2Z v2L j1Y d ks).2=true:=by
 have hw:∀ (t:Tst) (z:List It),(j1X t z).1=true->q1G (j1X t z).2=true:=by
  intro t z h;have h1:q1G z=true:=by
   have h2:x1W t z=true:=h;unfold x1W at h2;rw [Bool.and_eq_true] at h2;exact h2.1
  have e:(j1X t z).2=j1N t z:=by show q1S t z=_; unfold q1S; rw [if_pos (show x1W t z=true from h)]
  rw [e];unfold j1N;exact v5Z (Nat.le_trans (List.length_filter_le _ _) (v1B h1)) (fun p hp=>z3E h1 (List.mem_filter.1 hp).1) ((q3Z h1).sublist List.filter_sublist)
 have hm:∀ (cs:List Cel) (z:List It),(v2Y cs z).1=true->q1G (v2Y cs z).2=true:=by
  intro cs z h;have h2:v2E cs z=true:=h;have e:(v2Y cs z).2=j1L [] (q2K cs z):=by show z2O cs z=_; unfold z2O; rw [if_pos h2]
  unfold v2E at h2;rw [Bool.and_eq_true] at h2;rw [e]; exact h2.2
 have hj:∀ (y z:List It) (a b:Int),(v1W y z a b).1=true->q1G (v1W y z a b).2=true:=by
  intro y z a b h;have h2:z2Q y z a b=true:=h;have e:(v1W y z a b).2=j1L [] (j1H y z a.toNat b.toNat):=by show v1O y z a b=_; unfold v1O; rw [if_pos h2]
  unfold z2Q at h2;simp only [Bool.and_eq_true] at h2;rw [e]; exact h2.2
 have ha:∀ (y z:List It),(v2Z y z).1=true->q1G (v2Z y z).2=true:=by
  intro y z h;have h2:j2O y z=true:=h;have e:(v2Z y z).2=j1L y z:=by show v1M y z=_; unfold v1M; rw [if_pos h2]
  unfold j2O at h2;simp only [Bool.and_eq_true] at h2;rw [e]; exact h2.2
 have hp:∀ z:List It,q1G (v2L z)=true:=by
  intro z;unfold v2L;split
  ·
   rename_i h; exact zOk_posD h
  ·
   simp [q1G]
 have hg:∀ (z:List It) (ks:List Int) (g c:Int),(j1Y z ks g c).1=true->q1G (j1Y z ks g c).2=true:=by
  intro z ks g c h;have h2:k1E z ks g c=true:=h;have e:(j1Y z ks g c).2=k1R (v2I z ks g c.toNat) z:=by show z2R z ks g c=_; unfold z2R; rw [if_pos h2]
  unfold k1E k1Y k1I at h2;simp only [Bool.and_eq_true,List.all_eq_true] at h2;rw [e];exact q5W h2.1.1.1.1 h2.1.1.2 h2.1.2.1 (fun p hp=>hp) (v1B h2.1.1.1.1) h2.2
 revert h;unfold j1V v4L;repeat' split
 all_goals first | exact hw _ _ | exact hm _ _ | exact hj _ _ _ _ | exact ha _ _ | exact fun _=>hp _ | exact hg _ _ _ _ | (intro h; cases h; done) | (rename_i h; exact fun _=>h.2.2)
theorem x5S {ts:List (List It)} {n:Nat} {p:Pl (n+1)} {z:List It} (h:x1I (j1V ts j1X v2Y v1W v2Z v2L j1Y) (n+1) p=some z) :
  ∃ zss,p.kids.mapM (x1I (j1V ts j1X v2Y v1W v2Z v2L j1Y) n)=some zss/\j1V ts j1X v2Y v1W v2Z v2L j1Y p.nd zss=(true,z)/\q1G z=true:=by
 rw [z2H] at h;cases hk:p.kids.mapM (x1I (j1V ts j1X v2Y v1W v2Z v2L j1Y) n) with
 | none=>rw [hk] at h; cases h
 | some zss=>
  rw [hk] at h;have h':(if (j1V ts j1X v2Y v1W v2Z v2L j1Y p.nd zss).1=true then some (j1V ts j1X v2Y v1W v2Z v2L j1Y p.nd zss).2 else none)=some z:=h;split at h'
  ·
   rename_i h1;have e:=Option.some.inj h';exact ⟨zss,rfl,Prod.ext h1 e,by rw [<-e]; exact fk_right h1⟩
  ·
   cases h'
theorem fk_bad {ts:List (List It)}:∀ d ks,(j1V ts j1X v2Y v1W v2Z v2L j1Y d ks).1=false->(j1V ts j1X v2Y v1W v2Z v2L j1Y d ks).2=[]:=by
 refine fKof_bad (fun t z h=> ?_) (fun t z h=> ?_) (fun x y a b h=> ?_) (fun x y h=> ?_) (fun x k a b h=> ?_)
 ·
  show q1S t z=[]; unfold q1S; rw [show x1W t z=false from h]; rfl
 ·
  show z2O t z=[]; unfold z2O; rw [show v2E t z=false from h]; rfl
 ·
  show v1O x y a b=[]; unfold v1O; rw [show z2Q x y a b=false from h]; rfl
 ·
  show v1M x y=[]; unfold v1M; rw [show j2O x y=false from h]; rfl
 ·
  show z2R x k a b=[]; unfold z2R; rw [show k1E x k a b=false from h]; rfl
end Go.Proofs.YtmjaepdplbgohaaGreatDoor.Kd
