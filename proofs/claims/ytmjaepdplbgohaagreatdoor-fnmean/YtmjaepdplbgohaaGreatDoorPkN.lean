/- Part of the proof of laws.FnMean: SpecMany, SpecClean, SpecClean2, SpecKind, SpecForm, SpecFit, SpecMean, SpecTop. -/
import Derived.Test.YtmjaepdplbgohaaGreatDoorPkA
import Derived.Test.YtmjaepdplbgohaaGreatDoorPkM
import Derived.Deep.RegionHeld3
import Derived.Deep.RegionHeld
import Derived.OrdersHeld
import Derived.Deep.DeepCutAuto
import Derived.Deep.CutBlock
set_option maxRecDepth 100000
set_option maxHeartbeats 16000000
set_option linter.unusedVariables false
set_option linter.unusedSimpArgs false
namespace Go.Proofs.YtmjaepdplbgohaaGreatDoor.Kd
open Go.RowKit Go.Shelf
def manyD:(n:Nat)->Pl n->Nat->Nat
 | 0,_,_=>0
 | n+1,p,d=>1+if d=0 then 0 else (p.kids.map fun k=>manyD n k (d - 1)).sum
theorem x2X {n:Nat} (p:Pl (n+1)) (d:Nat):manyD (n+1) p d=1+if d=0 then 0 else (p.kids.map fun k=>manyD n k (d - 1)).sum:=rfl
theorem manyD_le:∀ (n:Nat) (p:Pl n) (d:Nat),manyD n p d<=1+Pl.sz n p:=by
 intro n;induction n with
 | zero=>intro p d; exact Nat.zero_le _
 | succ n ih=>
  intro p d;have hs:∀ l:List (Pl n),(l.map fun k=>manyD n k (d - 1)).sum<=l.length+(l.map (Pl.sz n)).sum:=by
   intro l;induction l with
   | nil=>exact Nat.le_refl _
   | cons x l ihl=>
    have:=ih x (d - 1);simp only [List.map_cons,List.sum_cons,List.length_cons];omega
  have h1:=hs p.kids;rw [x2X,Pl.sz_succ];split <;> omega
theorem sum_take {α:Type} (f:α->Nat) (l:List α) (k:Nat) (hk:k<l.length):((l.take (k+1)).map f).sum=((l.take k).map f).sum+f l[k]:=by
 rw [List.take_succ_eq_append_getElem hk,List.map_append,List.sum_append];simp only [List.map_cons,List.map_nil,List.sum_cons,List.sum_nil,Nat.add_zero]
theorem j3E {α:Type} (f:α->Nat) (l:List α) (k:Nat):((l.take k).map f).sum<=(l.map f).sum:=by
 have h:(l.map f).sum=((l.take k).map f).sum+((l.drop k).map f).sum:=by rw [<-List.sum_append,<-List.map_append,List.take_append_drop]
 omega
def x6K (n:Nat):Prop:=
 ∀ (p:Pl (n+1)) (ca ka da:Option Addr) (cc kc dc:Nat) (d:Nat) (w:World),d<=1000->q1X (NodeAt n) w p.nd p.kids (.slice ca p.nd.cs.length cc) (.slice ka p.nd.ks.length kc) (.slice da p.kids.length dc)->Pl.sz (n+1) p<=1048576 →
  Calls Tryz.prog 60 #[.agg (p19 p ca cc ka kc da dc).toArray,.int .i64 d] w fun e w'=>e = .returned (.int .i64 (manyD (n+1) p d))/\Below w.heap.size w w'
theorem j3U (n:Nat) (IH:∀ m,n=m+1->x6K m):x6K n:=by
 intro p ca ka da cc kc dc d w hd hp hz;have hle:=manyD_le (n+1) p d;obtain ⟨hcs,hks,hkd⟩:=hp;have HKD:=hidden hkd;have HIH:=hidden IH;have hsz:=Pl.sz_succ p;have hln:p.kids.length<=1048576:=by omega
 clear hcs hks hkd IH;have hla:(Tryz.prog.info? 31).map (·.size)=some (p19 p ca cc ka kc da dc).length:=by kernel_rfl
 have HA:Hid ((w.alloc (.cells (p19 p ca cc ka kc da dc).toArray 31)).heap[w.heap.size]? = some (.cells (p19 p ca cc ka kc da dc).toArray 31)):=alloc_at _ _;have HB:Hid (Below w.heap.size w (w.alloc (.cells (p19 p ca cc ka kc da dc).toArray 31))):=z1B _;go_enter Tryz.func60,Tryz.ntmps60;go_wp2_with fail;go_loopw [5,6] (fun s i wr=> ∃ k:Nat,k<=p.kids.length/\(0<k->d≠0)/\i = .int .i64 k/\s = .int .i64 ((1+((p.kids.take k).map fun x=>manyD n x (d - 1)).sum:Nat):Int)/\Hid (Below w.heap.size w wr/\wr.heap[w.heap.size]? = some (.cells (p19 p ca cc ka kc da dc).toArray 31))) (fun _ i _=>p.kids.length - (intOf i).toNat)
 case atStart=>exact ⟨0,Nat.zero_le _,fun h=>absurd h (Nat.lt_irrefl _),rfl,rfl,HB.out,HA.out⟩
 case round=>
  obtain ⟨k,hk,hk0,rfl,rfl,HWR⟩:=hrel;obtain ⟨hbw,hbox⟩:=HWR.out;have hcel:=cell_at (j:=18) hbox rfl;have hts:=j3E (fun x=>manyD n x (d - 1)) p.kids k;by_cases hgo:k<p.kids.length/\0<d
  ·
   obtain ⟨hlt,hd0⟩:=hgo;cases n with
   | zero=>cases p.kids[k]
   | succ m=>
   obtain ⟨_,a0,cap0,heq,-,hcs⟩:=id HKD.out;obtain ⟨kb,ko,rfl,hkb,hnode⟩:=hcs (fun h=>by rw [h] at hlt; exact absurd hlt (Nat.not_lt_zero _));obtain ⟨rfl,-,rfl⟩:da=some ⟨kb,ko,none⟩/\True/\dc=cap0:=by simpa using heq
   obtain ⟨x,HX⟩:∃ x,Hid (x=p.kids[k]):=⟨p.kids[k],Eq.refl p.kids[k]⟩;have hnd:=hnode k hlt;rw [<-HX.out] at hnd;obtain ⟨_,xc,xk,xv,hfl,hpr⟩:=hnd;obtain ⟨_,xa,xd,rfl,_⟩:=id hpr.2.2;obtain ⟨_,xca,xcc,rfl,_⟩:=id hpr.1;obtain ⟨_,xka,xkc,rfl,_⟩:=id hpr.2.1;have HRX:Hid (wr.rangeAt kb (ko+k*19) (p19 x xca xcc xka xkc xa xd)):=fun j v hv=>(hbw.cell (p:=⟨kb,ko+k*19+j,none⟩) hkb).trans (hfl.range j v hv);have hlx:(Tryz.prog.info? 31).map (·.size)=some (p19 x xca xcc xka xkc xa xd).length:=by kernel_rfl
   have hszx:Pl.sz (m+1) x<=1048576:=by
    have h1:=k1B hlt;rw [<-HX.out] at h1;unfold k1X at h1;omega
   have hst:=sum_take (fun x=>manyD (m+1) x (d - 1)) p.kids k hlt;have hs2:=j3E (fun x=>manyD (m+1) x (d - 1)) p.kids (k+1);have hmd:=x2X p d;rw [if_neg (by omega)] at hmd;simp only [<-HX.out] at hst;have HIX:=hidden (HIH.out m rfl x xca xka xa xcc xkc xd (d - 1) wr (by omega) (hpr.below hbw fun b o y h=>NodeAt.below m h hbw) hszx);obtain ⟨S,hS⟩:∃ S,S=((p.kids.take k).map fun x=>manyD (m+1) x (d - 1)).sum:=⟨_,rfl⟩;obtain ⟨Y,hY⟩:∃ Y,Y=manyD (m+1) x (d - 1):=⟨_,rfl⟩;rw [<-hS,<-hY] at hst;rw [<-hY] at HIX;have hbig:1+S+Y<=2000000:=by omega
   have hltI:(k:Int)<(p.kids.length:Int):=by omega
   have hd0I:(0:Int)<(d:Int):=by omega
   have hdm:((d - 1:Nat):Int)=(d:Int) - 1:=by omega
   have HST:=hidden hst;rw [hdm] at HIX;have hwr1:IntKind.i64.wrap ((d:Int) - 1)=(d:Int) - 1:=by rw [wrap_small] <;> omega
   have HS:=hidden hS;rw [<-hS];clear hnode hcs heq hfl hpr HKD hts hs2 hmd hst hS hY;go_wp2_with (first | refine wpList_load_mid rfl 31 _ rfl kb (ko+k*19) rfl _ _ HRX.out Tryz.underlying31 rfl hlx ?_ | (go_at_call 60; refine HIX.out.mono ?_; rintro e W4 ⟨rfl,hb4⟩; have HB4:=hidden (z1A hbw hb4); have HX4:=hidden (z1F hbox hb4); clear hb4));refine ⟨⟨k+1,by omega,fun _=>by omega,rfl,?_,HB4.out,HX4.out⟩,by simp [intOf]; omega⟩;rw [HST.out];congr 1;omega
  ·
   have hres:(1+((p.kids.take k).map fun x=>manyD n x (d - 1)).sum)=manyD (n+1) p d:=by
    rw [x2X];by_cases hd0:d=0
    ·
     have:k=0:=by
      rcases Nat.eq_zero_or_pos k with h | h
      ·
       exact h
      ·
       exact absurd hd0 (hk0 h)
     subst this;rw [if_pos hd0];rfl
    ·
     rw [if_neg hd0];have:k=p.kids.length:=by omega
     rw [this,List.take_length]
   rw [hres];obtain ⟨R,hR⟩:∃ R,R=manyD (n+1) p d:=⟨_,rfl⟩;rw [<-hR];have HR:=hidden hR;clear hres hts hR HKD HIH;by_cases hlt:(k:Int)<(p.kids.length:Int)
   ·
    have hd0:(d:Int)<=0:=by omega
    go_wp2_with fail;go_ret;exact ⟨by rw [<-HR.out]; rfl,hbw⟩
   ·
    have hlt':(p.kids.length:Int)<=(k:Int):=by omega
    go_wp2_with fail;go_ret;exact ⟨by rw [<-HR.out]; rfl,hbw⟩
theorem l4Many_any:∀ n,x6K n:=by
 intro n;induction n with
 | zero=>exact j3U 0 (fun m h=>by cases h)
 | succ n ih=>exact j3U (n+1) (fun m h=>by cases h; exact ih)
def x1Z (k:Int):Int:=if k=1 then 0 else if k=2\/k=3\/k=6\/k=7 then 1 else if k=4\/k=5 then 2 else -1
theorem z2I (k:Int) (w:World):Calls Tryz.prog 101 #[.int .i64 k] w fun e w'=>e = .returned (.int .i64 (x1Z k))/\w=w':=by
 by_cases h1:k=1
 ·
  subst h1;go_enter Tryz.func101,Tryz.ntmps101;go_wp2;go_ret;exact ⟨rfl,rfl⟩
 by_cases h2:k=2
 ·
  subst h2;go_enter Tryz.func101,Tryz.ntmps101;go_wp2;go_ret;exact ⟨rfl,rfl⟩
 by_cases h3:k=3
 ·
  subst h3;go_enter Tryz.func101,Tryz.ntmps101;go_wp2;go_ret;exact ⟨rfl,rfl⟩
 by_cases h4:k=4
 ·
  subst h4;go_enter Tryz.func101,Tryz.ntmps101;go_wp2;go_ret;exact ⟨rfl,rfl⟩
 by_cases h5:k=5
 ·
  subst h5;go_enter Tryz.func101,Tryz.ntmps101;go_wp2;go_ret;exact ⟨rfl,rfl⟩
 by_cases h6:k=6
 ·
  subst h6;go_enter Tryz.func101,Tryz.ntmps101;go_wp2;go_ret;exact ⟨rfl,rfl⟩
 by_cases h7:k=7
 ·
  subst h7;go_enter Tryz.func101,Tryz.ntmps101;go_wp2;go_ret;exact ⟨rfl,rfl⟩
 have q1:(k==1)=false:=by simpa using h1
 have q2:(k==2)=false:=by simpa using h2
 have q3:(k==3)=false:=by simpa using h3
 have q4:(k==4)=false:=by simpa using h4
 have q5:(k==5)=false:=by simpa using h5
 have q6:(k==6)=false:=by simpa using h6
 have q7:(k==7)=false:=by simpa using h7
 have hk:x1Z k = -1:=by simp [x1Z,h1,h2,h3,h4,h5,h6,h7]
 rw [hk];clear hk h1 h2 h3 h4 h5 h6 h7;go_enter Tryz.func101,Tryz.ntmps101;go_wp2;go_ret;exact ⟨rfl,rfl⟩
theorem k1T {P:Program} {ops:Array Oper} {rest:List Oper} {op:Oper} {a:Act} {w:World} {Q:Exit->Act->World->Prop} (hw:Region.wanted op (yielded ops a.tmps)=true) (ty:TypeId) (x:Operand) (ho:op.op = .load ty x)
  (b o:Nat) (hx:a.eval x = .pointer (some ⟨b,o,none⟩)) (cs:List Value) (d:TypeDesc) (hc:w.rangeAt b o cs)
  (hu:P.underlying ty=some d) (hd:d.isRow=true) (hi:(P.info? ty).map (·.size)=some cs.length)
  (h:wpList P ops Q rest (a.put op.dst (.agg cs.toArray)) w):wpList P ops Q (op :: rest) a w:=
 wpList_step fun K hK=>by rw [if_pos hw]; exact wp_load_mid ty x ho b o hx cs d hc hu hd hi (hK _ _ h)
def Tst.zero:Tst:=⟨0,false,⟨0,0,0,0⟩,⟨0,0,0,0⟩⟩
def x1U (d:Nd):Bool:=(d.k==1 || d.n==0)&&(d.k==2 || d.t.eqB Tst.zero)&&(d.k==3 || d.cs.length==0)&&(d.k==4 || d.a==0&&d.b==0)&&(d.k==7 || d.ks.length==0&&(d.g==0&&d.c==0))
theorem clean_0 (d:Nd) (ca ka:Option Addr) (nc cc nk kc:Nat) (vd:Value) (w:World) (n0 t0 c0 a0 e0 k0 g0 x0:Bool) (q1:(d.k==1)=false) (q2:(d.k==2)=false) (q3:(d.k==3)=false) (q4:(d.k==4)=false) (q7:(d.k==7)=false) (rn0:(d.n==0)=n0) (rt0:(d.t.eqB Tst.zero)=t0) (rc0:((nc:Int)==0)=c0) (ra0:(d.a==0)=a0) (re0:(d.b==0)=e0) (rk0:((nk:Int)==0)=k0) (rg0:(d.g==0)=g0) (rx0:(d.c==0)=x0):Calls Tryz.prog 102 #[.agg (z1J d (.slice ca nc cc) (.slice ka nk kc) vd).toArray] w fun e w'=>e = .returned (.bool ((((n0&&t0)&&c0)&&(a0&&e0))&&(k0&&(g0&&x0))))/\Below w.heap.size w w':=by
 have hte:∀ w:World,(binOp .eql 26 (.agg (t10 d.t).toArray) (.agg #[.int .i64 0,.bool false,.int .i64 0,.int .i64 0,.int .i64 0,.int .i64 0,.int .i64 0,.int .i64 0,.int .i64 0,.int .i64 0])).run Tryz.prog w = .ok (.bool (d.t.eqB Tst.zero)) w:=fun w=>z2X d.t Tst.zero w;have HR:Hid ((w.alloc (.cells (z1J d (.slice ca nc cc) (.slice ka nk kc) vd).toArray 31)).rangeAt w.heap.size 2 (t10 d.t)):=x1Q (q1T (alloc_at _ _));have hlt:(Tryz.prog.info? 26).map (·.size)=some (t10 d.t).length:=by kernel_rfl
 have HB:Hid (Below w.heap.size w (w.alloc (.cells (z1J d (.slice ca nc cc) (.slice ka nk kc) vd).toArray 31))):=z1B _;have hh:n0=false\/n0=true/\(t0=false\/t0=true/\(c0=false\/c0=true/\(a0=false\/a0=true/\(e0=false\/e0=true/\(k0=false\/k0=true/\(g0=false\/g0=true/\(x0=false\/x0=true))))))):=by cases n0 <;> cases t0 <;> cases c0 <;> cases a0 <;> cases e0 <;> cases k0 <;> cases g0 <;> cases x0 <;> simp
 rcases hh with rfl | ⟨rfl,rfl | ⟨rfl,rfl | ⟨rfl,rfl | ⟨rfl,rfl | ⟨rfl,rfl | ⟨rfl,rfl | ⟨rfl,rfl | rfl⟩⟩⟩⟩⟩⟩⟩
 all_goals (go_enter Tryz.func102,Tryz.ntmps102; go_wp2; go_ret; exact ⟨rfl,HB.out⟩)
theorem clean_1 (d:Nd) (ca ka:Option Addr) (nc cc nk kc:Nat) (vd:Value) (w:World) (t0 c0 a0 e0 k0 g0 x0:Bool) (rt0:(d.t.eqB Tst.zero)=t0) (rc0:((nc:Int)==0)=c0) (ra0:(d.a==0)=a0) (re0:(d.b==0)=e0) (rk0:((nk:Int)==0)=k0) (rg0:(d.g==0)=g0) (rx0:(d.c==0)=x0):Calls Tryz.prog 102 #[.agg (g19 1 d.n d.t (.slice ca nc cc) d.a d.b (.slice ka nk kc) d.g d.c vd).toArray] w fun e w'=>e = .returned (.bool (((t0&&c0)&&(a0&&e0))&&(k0&&(g0&&x0))))/\Below w.heap.size w w':=by
 have hte:∀ w:World,(binOp .eql 26 (.agg (t10 d.t).toArray) (.agg #[.int .i64 0,.bool false,.int .i64 0,.int .i64 0,.int .i64 0,.int .i64 0,.int .i64 0,.int .i64 0,.int .i64 0,.int .i64 0])).run Tryz.prog w = .ok (.bool (d.t.eqB Tst.zero)) w:=fun w=>z2X d.t Tst.zero w;have HR:Hid ((w.alloc (.cells (g19 1 d.n d.t (.slice ca nc cc) d.a d.b (.slice ka nk kc) d.g d.c vd).toArray 31)).rangeAt w.heap.size 2 (t10 d.t)):=x1Q (q1T (alloc_at _ _));have hlt:(Tryz.prog.info? 26).map (·.size)=some (t10 d.t).length:=by kernel_rfl
 have HB:Hid (Below w.heap.size w (w.alloc (.cells (g19 1 d.n d.t (.slice ca nc cc) d.a d.b (.slice ka nk kc) d.g d.c vd).toArray 31))):=z1B _;have hh:t0=false\/t0=true/\(c0=false\/c0=true/\(a0=false\/a0=true/\(e0=false\/e0=true/\(k0=false\/k0=true/\(g0=false\/g0=true/\(x0=false\/x0=true)))))):=by cases t0 <;> cases c0 <;> cases a0 <;> cases e0 <;> cases k0 <;> cases g0 <;> cases x0 <;> simp
 rcases hh with rfl | ⟨rfl,rfl | ⟨rfl,rfl | ⟨rfl,rfl | ⟨rfl,rfl | ⟨rfl,rfl | ⟨rfl,rfl | rfl⟩⟩⟩⟩⟩⟩
 all_goals (go_enter Tryz.func102,Tryz.ntmps102; go_wp2; go_ret; exact ⟨rfl,HB.out⟩)
theorem clean_2 (d:Nd) (ca ka:Option Addr) (nc cc nk kc:Nat) (vd:Value) (w:World) (n0 c0 a0 e0 k0 g0 x0:Bool) (rn0:(d.n==0)=n0) (rc0:((nc:Int)==0)=c0) (ra0:(d.a==0)=a0) (re0:(d.b==0)=e0) (rk0:((nk:Int)==0)=k0) (rg0:(d.g==0)=g0) (rx0:(d.c==0)=x0):Calls Tryz.prog 102 #[.agg (g19 2 d.n d.t (.slice ca nc cc) d.a d.b (.slice ka nk kc) d.g d.c vd).toArray] w fun e w'=>e = .returned (.bool (((n0&&c0)&&(a0&&e0))&&(k0&&(g0&&x0))))/\Below w.heap.size w w':=by
 have hte:∀ w:World,(binOp .eql 26 (.agg (t10 d.t).toArray) (.agg #[.int .i64 0,.bool false,.int .i64 0,.int .i64 0,.int .i64 0,.int .i64 0,.int .i64 0,.int .i64 0,.int .i64 0,.int .i64 0])).run Tryz.prog w = .ok (.bool (d.t.eqB Tst.zero)) w:=fun w=>z2X d.t Tst.zero w;have HR:Hid ((w.alloc (.cells (g19 2 d.n d.t (.slice ca nc cc) d.a d.b (.slice ka nk kc) d.g d.c vd).toArray 31)).rangeAt w.heap.size 2 (t10 d.t)):=x1Q (q1T (alloc_at _ _));have hlt:(Tryz.prog.info? 26).map (·.size)=some (t10 d.t).length:=by kernel_rfl
 have HB:Hid (Below w.heap.size w (w.alloc (.cells (g19 2 d.n d.t (.slice ca nc cc) d.a d.b (.slice ka nk kc) d.g d.c vd).toArray 31))):=z1B _;have hh:n0=false\/n0=true/\(c0=false\/c0=true/\(a0=false\/a0=true/\(e0=false\/e0=true/\(k0=false\/k0=true/\(g0=false\/g0=true/\(x0=false\/x0=true)))))):=by cases n0 <;> cases c0 <;> cases a0 <;> cases e0 <;> cases k0 <;> cases g0 <;> cases x0 <;> simp
 rcases hh with rfl | ⟨rfl,rfl | ⟨rfl,rfl | ⟨rfl,rfl | ⟨rfl,rfl | ⟨rfl,rfl | ⟨rfl,rfl | rfl⟩⟩⟩⟩⟩⟩
 all_goals (go_enter Tryz.func102,Tryz.ntmps102; go_wp2; go_ret; exact ⟨rfl,HB.out⟩)
theorem clean_3 (d:Nd) (ca ka:Option Addr) (nc cc nk kc:Nat) (vd:Value) (w:World) (n0 t0 a0 e0 k0 g0 x0:Bool) (rn0:(d.n==0)=n0) (rt0:(d.t.eqB Tst.zero)=t0) (ra0:(d.a==0)=a0) (re0:(d.b==0)=e0) (rk0:((nk:Int)==0)=k0) (rg0:(d.g==0)=g0) (rx0:(d.c==0)=x0):Calls Tryz.prog 102 #[.agg (g19 3 d.n d.t (.slice ca nc cc) d.a d.b (.slice ka nk kc) d.g d.c vd).toArray] w fun e w'=>e = .returned (.bool (((n0&&t0)&&(a0&&e0))&&(k0&&(g0&&x0))))/\Below w.heap.size w w':=by
 have hte:∀ w:World,(binOp .eql 26 (.agg (t10 d.t).toArray) (.agg #[.int .i64 0,.bool false,.int .i64 0,.int .i64 0,.int .i64 0,.int .i64 0,.int .i64 0,.int .i64 0,.int .i64 0,.int .i64 0])).run Tryz.prog w = .ok (.bool (d.t.eqB Tst.zero)) w:=fun w=>z2X d.t Tst.zero w;have HR:Hid ((w.alloc (.cells (g19 3 d.n d.t (.slice ca nc cc) d.a d.b (.slice ka nk kc) d.g d.c vd).toArray 31)).rangeAt w.heap.size 2 (t10 d.t)):=x1Q (q1T (alloc_at _ _));have hlt:(Tryz.prog.info? 26).map (·.size)=some (t10 d.t).length:=by kernel_rfl
 have HB:Hid (Below w.heap.size w (w.alloc (.cells (g19 3 d.n d.t (.slice ca nc cc) d.a d.b (.slice ka nk kc) d.g d.c vd).toArray 31))):=z1B _;have hh:n0=false\/n0=true/\(t0=false\/t0=true/\(a0=false\/a0=true/\(e0=false\/e0=true/\(k0=false\/k0=true/\(g0=false\/g0=true/\(x0=false\/x0=true)))))):=by cases n0 <;> cases t0 <;> cases a0 <;> cases e0 <;> cases k0 <;> cases g0 <;> cases x0 <;> simp
 rcases hh with rfl | ⟨rfl,rfl | ⟨rfl,rfl | ⟨rfl,rfl | ⟨rfl,rfl | ⟨rfl,rfl | ⟨rfl,rfl | rfl⟩⟩⟩⟩⟩⟩
 all_goals (go_enter Tryz.func102,Tryz.ntmps102; go_wp2; go_ret; exact ⟨rfl,HB.out⟩)
theorem clean_4 (d:Nd) (ca ka:Option Addr) (nc cc nk kc:Nat) (vd:Value) (w:World) (n0 t0 c0 k0 g0 x0:Bool) (rn0:(d.n==0)=n0) (rt0:(d.t.eqB Tst.zero)=t0) (rc0:((nc:Int)==0)=c0) (rk0:((nk:Int)==0)=k0) (rg0:(d.g==0)=g0) (rx0:(d.c==0)=x0):Calls Tryz.prog 102 #[.agg (g19 4 d.n d.t (.slice ca nc cc) d.a d.b (.slice ka nk kc) d.g d.c vd).toArray] w fun e w'=>e = .returned (.bool (((n0&&t0)&&c0)&&(k0&&(g0&&x0))))/\Below w.heap.size w w':=by
 have hte:∀ w:World,(binOp .eql 26 (.agg (t10 d.t).toArray) (.agg #[.int .i64 0,.bool false,.int .i64 0,.int .i64 0,.int .i64 0,.int .i64 0,.int .i64 0,.int .i64 0,.int .i64 0,.int .i64 0])).run Tryz.prog w = .ok (.bool (d.t.eqB Tst.zero)) w:=fun w=>z2X d.t Tst.zero w;have HR:Hid ((w.alloc (.cells (g19 4 d.n d.t (.slice ca nc cc) d.a d.b (.slice ka nk kc) d.g d.c vd).toArray 31)).rangeAt w.heap.size 2 (t10 d.t)):=x1Q (q1T (alloc_at _ _));have hlt:(Tryz.prog.info? 26).map (·.size)=some (t10 d.t).length:=by kernel_rfl
 have HB:Hid (Below w.heap.size w (w.alloc (.cells (g19 4 d.n d.t (.slice ca nc cc) d.a d.b (.slice ka nk kc) d.g d.c vd).toArray 31))):=z1B _;have hh:n0=false\/n0=true/\(t0=false\/t0=true/\(c0=false\/c0=true/\(k0=false\/k0=true/\(g0=false\/g0=true/\(x0=false\/x0=true))))):=by cases n0 <;> cases t0 <;> cases c0 <;> cases k0 <;> cases g0 <;> cases x0 <;> simp
 rcases hh with rfl | ⟨rfl,rfl | ⟨rfl,rfl | ⟨rfl,rfl | ⟨rfl,rfl | ⟨rfl,rfl | rfl⟩⟩⟩⟩⟩
 all_goals (go_enter Tryz.func102,Tryz.ntmps102; go_wp2; go_ret; exact ⟨rfl,HB.out⟩)
theorem clean_7 (d:Nd) (ca ka:Option Addr) (nc cc nk kc:Nat) (vd:Value) (w:World) (n0 t0 c0 a0 e0:Bool) (rn0:(d.n==0)=n0) (rt0:(d.t.eqB Tst.zero)=t0) (rc0:((nc:Int)==0)=c0) (ra0:(d.a==0)=a0) (re0:(d.b==0)=e0):Calls Tryz.prog 102 #[.agg (g19 7 d.n d.t (.slice ca nc cc) d.a d.b (.slice ka nk kc) d.g d.c vd).toArray] w fun e w'=>e = .returned (.bool (((n0&&t0)&&c0)&&(a0&&e0)))/\Below w.heap.size w w':=by
 have hte:∀ w:World,(binOp .eql 26 (.agg (t10 d.t).toArray) (.agg #[.int .i64 0,.bool false,.int .i64 0,.int .i64 0,.int .i64 0,.int .i64 0,.int .i64 0,.int .i64 0,.int .i64 0,.int .i64 0])).run Tryz.prog w = .ok (.bool (d.t.eqB Tst.zero)) w:=fun w=>z2X d.t Tst.zero w;have HR:Hid ((w.alloc (.cells (g19 7 d.n d.t (.slice ca nc cc) d.a d.b (.slice ka nk kc) d.g d.c vd).toArray 31)).rangeAt w.heap.size 2 (t10 d.t)):=x1Q (q1T (alloc_at _ _));have hlt:(Tryz.prog.info? 26).map (·.size)=some (t10 d.t).length:=by kernel_rfl
 have HB:Hid (Below w.heap.size w (w.alloc (.cells (g19 7 d.n d.t (.slice ca nc cc) d.a d.b (.slice ka nk kc) d.g d.c vd).toArray 31))):=z1B _;have hh:n0=false\/n0=true/\(t0=false\/t0=true/\(c0=false\/c0=true/\(a0=false\/a0=true/\(e0=false\/e0=true)))):=by cases n0 <;> cases t0 <;> cases c0 <;> cases a0 <;> cases e0 <;> simp
 rcases hh with rfl | ⟨rfl,rfl | ⟨rfl,rfl | ⟨rfl,rfl | ⟨rfl,rfl | rfl⟩⟩⟩⟩
 all_goals (go_enter Tryz.func102,Tryz.ntmps102; go_wp2; go_ret; exact ⟨rfl,HB.out⟩)
end Go.Proofs.YtmjaepdplbgohaaGreatDoor.Kd
namespace Go.Proofs.YtmjaepdplbgohaaGreatDoor.Kd
open Go.RowKit
theorem j2F (d:Nd) (ca ka:Option Addr) (cc kc:Nat) (vd:Value) (w:World):Calls Tryz.prog 102 #[.agg #[.int .i64 d.k,.int .i64 d.n,.int .i64 d.t.k,.bool d.t.no,.int .i64 d.t.l.k,.int .i64 d.t.l.a,.int .i64 d.t.l.b,.int .i64 d.t.l.n,.int .i64 d.t.r.k,.int .i64 d.t.r.a,.int .i64 d.t.r.b,.int .i64 d.t.r.n,(.slice ca d.cs.length cc),.int .i64 d.a,.int .i64 d.b,(.slice ka d.ks.length kc),.int .i64 d.g,.int .i64 d.c,vd]] w fun e w'=>e = .returned (.bool (x1U d))/\Below w.heap.size w w':=by
 have hn:∀ n:Nat,((n:Int)==0)=(n==0):=fun n=>by cases n <;> rfl
 by_cases h1:d.k=1
 ·
  have hc:x1U d=((((d.t.eqB Tst.zero)&&(d.cs.length==0))&&((d.a==0)&&(d.b==0)))&&((d.ks.length==0)&&((d.g==0)&&(d.c==0)))):=by unfold x1U; rw [h1]; simp [Bool.and_assoc]
  rw [hc,h1];exact clean_1 d ca ka _ cc _ kc vd w _ _ _ _ _ _ _ rfl (hn _) rfl rfl (hn _) rfl rfl
 by_cases h2:d.k=2
 ·
  have hc:x1U d=((((d.n==0)&&(d.cs.length==0))&&((d.a==0)&&(d.b==0)))&&((d.ks.length==0)&&((d.g==0)&&(d.c==0)))):=by unfold x1U; rw [h2]; simp [Bool.and_assoc]
  rw [hc,h2];exact clean_2 d ca ka _ cc _ kc vd w _ _ _ _ _ _ _ rfl (hn _) rfl rfl (hn _) rfl rfl
 by_cases h3:d.k=3
 ·
  have hc:x1U d=((((d.n==0)&&(d.t.eqB Tst.zero))&&((d.a==0)&&(d.b==0)))&&((d.ks.length==0)&&((d.g==0)&&(d.c==0)))):=by unfold x1U; rw [h3]; simp [Bool.and_assoc]
  rw [hc,h3];exact clean_3 d ca ka _ cc _ kc vd w _ _ _ _ _ _ _ rfl rfl rfl rfl (hn _) rfl rfl
 by_cases h4:d.k=4
 ·
  have hc:x1U d=((((d.n==0)&&(d.t.eqB Tst.zero))&&(d.cs.length==0))&&((d.ks.length==0)&&((d.g==0)&&(d.c==0)))):=by unfold x1U; rw [h4]; simp [Bool.and_assoc]
  rw [hc,h4];exact clean_4 d ca ka _ cc _ kc vd w _ _ _ _ _ _ rfl rfl (hn _) (hn _) rfl rfl
 by_cases h7:d.k=7
 ·
  have hc:x1U d=((((d.n==0)&&(d.t.eqB Tst.zero))&&(d.cs.length==0))&&((d.a==0)&&(d.b==0))):=by unfold x1U; rw [h7]; simp [Bool.and_assoc]
  rw [hc,h7];exact clean_7 d ca ka _ cc _ kc vd w _ _ _ _ _ rfl rfl (hn _) rfl rfl
 have hc:x1U d=(((((d.n==0)&&(d.t.eqB Tst.zero))&&(d.cs.length==0))&&((d.a==0)&&(d.b==0)))&&((d.ks.length==0)&&((d.g==0)&&(d.c==0)))):=by
  have q:∀ j:Int,d.k≠j->(d.k==j)=false:=fun j h=>by simpa using h
  unfold x1U;rw [q 1 h1,q 2 h2,q 3 h3,q 4 h4,q 7 h7];simp [Bool.and_assoc]
 rw [hc];exact clean_0 d ca ka _ cc _ kc vd w _ _ _ _ _ _ _ _ (by simpa using h1) (by simpa using h2) (by simpa using h3) (by simpa using h4) (by simpa using h7) rfl rfl (hn _) rfl rfl (hn _) rfl rfl
end Go.Proofs.YtmjaepdplbgohaaGreatDoor.Kd
namespace Go.Proofs.YtmjaepdplbgohaaGreatDoor.Kd
def okS (okT:Tst->Bool) (okC:Cel->Bool) (okK:List Int->Bool) (d:Nd):Bool:=
 if d.k=1 then decide (0<=d.n/\d.n<3) else if d.k=2 then okT d.t else if d.k=3 then decide (1<=d.cs.length/\d.cs.length<=6)&&d.cs.all okC else if d.k=4 then decide (0<=d.a/\d.a<6)&&decide (0<=d.b/\d.b<6) else if d.k=7 then okK d.ks&&decide (0<=d.g/\d.g<4)&&decide (0<=d.c/\d.c<6) else true
theorem z2S (d:Nd):x1U d=true<->(d.k=1\/d.n=0)/\(d.k=2\/d.t=Tst.zero)/\(d.k=3\/d.cs=[])/\(d.k=4\/d.a=0/\d.b=0)/\(d.k=7\/d.ks=[]/\d.g=0/\d.c=0):=by
 simp [x1U,Tst.eqB_iff,and_assoc]
theorem j2G {e c f:Bool} {m kn:Nat} {K:Int} (he:e=true<->c=true) (hK:K=m):(if e=true then some (m,f) else none)=some (kn,true)<->K=kn/\c=true/\f=true:=by
 subst hK;cases e with
 | true=>
  have hc:=he.1 rfl;subst hc;rw [if_pos rfl];simp only [Option.some.injEq,Prod.mk.injEq,true_and];constructor <;> rintro ⟨h1,h2⟩ <;> exact ⟨by omega,h2⟩
 | false=>
  have hc:c=false:=by cases c with | false=>rfl | true=>exact absurd (he.2 rfl) (by decide)
  subst hc;simp
theorem kindIx_1 (okT:Tst->Bool) (okC:Cel->Bool) (okK:List Int->Bool) (d:Nd) (h:d.k=1):j1R okT okC okK d=if d.eqB (q2H d)=true then some (0,decide (0<=d.n/\d.n<3)) else none:=by
 unfold j1R;by_cases e:d.eqB (q2H d)=true
 ·
  rw [if_pos e,if_pos e]
 ·
  rw [if_neg e,if_neg e];rw [if_neg (by rw [z2A (by rw [h]; show (1:Int)≠2; decide:d.k≠(q2G d).k)]; decide)];rw [if_neg (by rw [z2A (by rw [h]; show (1:Int)≠3; decide:d.k≠(q2F d).k)]; decide)];rw [if_neg (by rw [z2A (by rw [h]; show (1:Int)≠4; decide:d.k≠(q2E d).k)]; decide)];rw [if_neg (by rw [z2A (by rw [h]; show (1:Int)≠5; decide:d.k≠(q2D d).k)]; decide)];rw [if_neg (by rw [z2A (by rw [h]; show (1:Int)≠6; decide:d.k≠(q2C d).k)]; decide)];rw [if_neg (by rw [z2A (by rw [h]; show (1:Int)≠7; decide:d.k≠(q2O d).k)]; decide)]
theorem only_1 (d:Nd) (h:d.k=1):d.eqB (q2H d)=true<->x1U d=true:=by
 rw [z2S,Nd.eqB_iff];obtain ⟨k,n,t,cs,a,b,ks,g,c⟩:=d;simp only at h;subst h;simp [q2H,Tst.zero,and_assoc]
theorem kindIx_2 (okT:Tst->Bool) (okC:Cel->Bool) (okK:List Int->Bool) (d:Nd) (h:d.k=2):j1R okT okC okK d=if d.eqB (q2G d)=true then some (1,okT d.t) else none:=by
 unfold j1R;rw [if_neg (by rw [z2A (by rw [h]; show (2:Int)≠1; decide:d.k≠(q2H d).k)]; decide)];by_cases e:d.eqB (q2G d)=true
 ·
  rw [if_pos e,if_pos e]
 ·
  rw [if_neg e,if_neg e];rw [if_neg (by rw [z2A (by rw [h]; show (2:Int)≠3; decide:d.k≠(q2F d).k)]; decide)];rw [if_neg (by rw [z2A (by rw [h]; show (2:Int)≠4; decide:d.k≠(q2E d).k)]; decide)];rw [if_neg (by rw [z2A (by rw [h]; show (2:Int)≠5; decide:d.k≠(q2D d).k)]; decide)];rw [if_neg (by rw [z2A (by rw [h]; show (2:Int)≠6; decide:d.k≠(q2C d).k)]; decide)];rw [if_neg (by rw [z2A (by rw [h]; show (2:Int)≠7; decide:d.k≠(q2O d).k)]; decide)]
theorem only_2 (d:Nd) (h:d.k=2):d.eqB (q2G d)=true<->x1U d=true:=by
 rw [z2S,Nd.eqB_iff];obtain ⟨k,n,t,cs,a,b,ks,g,c⟩:=d;simp only at h;subst h;simp [q2G,Tst.zero,and_assoc]
theorem kindIx_3 (okT:Tst->Bool) (okC:Cel->Bool) (okK:List Int->Bool) (d:Nd) (h:d.k=3):j1R okT okC okK d=if d.eqB (q2F d)=true then some (1,(decide (1<=d.cs.length/\d.cs.length<=6)&&d.cs.all okC)) else none:=by
 unfold j1R;rw [if_neg (by rw [z2A (by rw [h]; show (3:Int)≠1; decide:d.k≠(q2H d).k)]; decide)];rw [if_neg (by rw [z2A (by rw [h]; show (3:Int)≠2; decide:d.k≠(q2G d).k)]; decide)];by_cases e:d.eqB (q2F d)=true
 ·
  rw [if_pos e,if_pos e]
 ·
  rw [if_neg e,if_neg e];rw [if_neg (by rw [z2A (by rw [h]; show (3:Int)≠4; decide:d.k≠(q2E d).k)]; decide)];rw [if_neg (by rw [z2A (by rw [h]; show (3:Int)≠5; decide:d.k≠(q2D d).k)]; decide)];rw [if_neg (by rw [z2A (by rw [h]; show (3:Int)≠6; decide:d.k≠(q2C d).k)]; decide)];rw [if_neg (by rw [z2A (by rw [h]; show (3:Int)≠7; decide:d.k≠(q2O d).k)]; decide)]
theorem only_3 (d:Nd) (h:d.k=3):d.eqB (q2F d)=true<->x1U d=true:=by
 rw [z2S,Nd.eqB_iff];obtain ⟨k,n,t,cs,a,b,ks,g,c⟩:=d;simp only at h;subst h;simp [q2F,Tst.zero,and_assoc]
theorem kindIx_4 (okT:Tst->Bool) (okC:Cel->Bool) (okK:List Int->Bool) (d:Nd) (h:d.k=4):j1R okT okC okK d=if d.eqB (q2E d)=true then some (2,(decide (0<=d.a/\d.a<6)&&decide (0<=d.b/\d.b<6))) else none:=by
 unfold j1R;rw [if_neg (by rw [z2A (by rw [h]; show (4:Int)≠1; decide:d.k≠(q2H d).k)]; decide)];rw [if_neg (by rw [z2A (by rw [h]; show (4:Int)≠2; decide:d.k≠(q2G d).k)]; decide)];rw [if_neg (by rw [z2A (by rw [h]; show (4:Int)≠3; decide:d.k≠(q2F d).k)]; decide)];by_cases e:d.eqB (q2E d)=true
 ·
  rw [if_pos e,if_pos e]
 ·
  rw [if_neg e,if_neg e];rw [if_neg (by rw [z2A (by rw [h]; show (4:Int)≠5; decide:d.k≠(q2D d).k)]; decide)];rw [if_neg (by rw [z2A (by rw [h]; show (4:Int)≠6; decide:d.k≠(q2C d).k)]; decide)];rw [if_neg (by rw [z2A (by rw [h]; show (4:Int)≠7; decide:d.k≠(q2O d).k)]; decide)]
theorem only_4 (d:Nd) (h:d.k=4):d.eqB (q2E d)=true<->x1U d=true:=by
 rw [z2S,Nd.eqB_iff];obtain ⟨k,n,t,cs,a,b,ks,g,c⟩:=d;simp only at h;subst h;simp [q2E,Tst.zero,and_assoc]
theorem kindIx_5 (okT:Tst->Bool) (okC:Cel->Bool) (okK:List Int->Bool) (d:Nd) (h:d.k=5):j1R okT okC okK d=if d.eqB (q2D d)=true then some (2,true) else none:=by
 unfold j1R;rw [if_neg (by rw [z2A (by rw [h]; show (5:Int)≠1; decide:d.k≠(q2H d).k)]; decide)];rw [if_neg (by rw [z2A (by rw [h]; show (5:Int)≠2; decide:d.k≠(q2G d).k)]; decide)];rw [if_neg (by rw [z2A (by rw [h]; show (5:Int)≠3; decide:d.k≠(q2F d).k)]; decide)];rw [if_neg (by rw [z2A (by rw [h]; show (5:Int)≠4; decide:d.k≠(q2E d).k)]; decide)];by_cases e:d.eqB (q2D d)=true
 ·
  rw [if_pos e,if_pos e]
 ·
  rw [if_neg e,if_neg e];rw [if_neg (by rw [z2A (by rw [h]; show (5:Int)≠6; decide:d.k≠(q2C d).k)]; decide)];rw [if_neg (by rw [z2A (by rw [h]; show (5:Int)≠7; decide:d.k≠(q2O d).k)]; decide)]
theorem only_5 (d:Nd) (h:d.k=5):d.eqB (q2D d)=true<->x1U d=true:=by
 rw [z2S,Nd.eqB_iff];obtain ⟨k,n,t,cs,a,b,ks,g,c⟩:=d;simp only at h;subst h;simp [q2D,Tst.zero,and_assoc]
theorem kindIx_6 (okT:Tst->Bool) (okC:Cel->Bool) (okK:List Int->Bool) (d:Nd) (h:d.k=6):j1R okT okC okK d=if d.eqB (q2C d)=true then some (1,true) else none:=by
 unfold j1R;rw [if_neg (by rw [z2A (by rw [h]; show (6:Int)≠1; decide:d.k≠(q2H d).k)]; decide)];rw [if_neg (by rw [z2A (by rw [h]; show (6:Int)≠2; decide:d.k≠(q2G d).k)]; decide)];rw [if_neg (by rw [z2A (by rw [h]; show (6:Int)≠3; decide:d.k≠(q2F d).k)]; decide)];rw [if_neg (by rw [z2A (by rw [h]; show (6:Int)≠4; decide:d.k≠(q2E d).k)]; decide)];rw [if_neg (by rw [z2A (by rw [h]; show (6:Int)≠5; decide:d.k≠(q2D d).k)]; decide)];by_cases e:d.eqB (q2C d)=true
 ·
  rw [if_pos e,if_pos e]
 ·
  rw [if_neg e,if_neg e];rw [if_neg (by rw [z2A (by rw [h]; show (6:Int)≠7; decide:d.k≠(q2O d).k)]; decide)]
theorem only_6 (d:Nd) (h:d.k=6):d.eqB (q2C d)=true<->x1U d=true:=by
 rw [z2S,Nd.eqB_iff];obtain ⟨k,n,t,cs,a,b,ks,g,c⟩:=d;simp only at h;subst h;simp [q2C,Tst.zero,and_assoc]
theorem kindIx_7 (okT:Tst->Bool) (okC:Cel->Bool) (okK:List Int->Bool) (d:Nd) (h:d.k=7):j1R okT okC okK d=if d.eqB (q2O d)=true then some (1,(okK d.ks&&decide (0<=d.g/\d.g<4)&&decide (0<=d.c/\d.c<6))) else none:=by
 unfold j1R;rw [if_neg (by rw [z2A (by rw [h]; show (7:Int)≠1; decide:d.k≠(q2H d).k)]; decide)];rw [if_neg (by rw [z2A (by rw [h]; show (7:Int)≠2; decide:d.k≠(q2G d).k)]; decide)];rw [if_neg (by rw [z2A (by rw [h]; show (7:Int)≠3; decide:d.k≠(q2F d).k)]; decide)];rw [if_neg (by rw [z2A (by rw [h]; show (7:Int)≠4; decide:d.k≠(q2E d).k)]; decide)];rw [if_neg (by rw [z2A (by rw [h]; show (7:Int)≠5; decide:d.k≠(q2D d).k)]; decide)];rw [if_neg (by rw [z2A (by rw [h]; show (7:Int)≠6; decide:d.k≠(q2C d).k)]; decide)]
theorem only_7 (d:Nd) (h:d.k=7):d.eqB (q2O d)=true<->x1U d=true:=by
 rw [z2S,Nd.eqB_iff];obtain ⟨k,n,t,cs,a,b,ks,g,c⟩:=d;simp only at h;subst h;simp [q2O,Tst.zero,and_assoc]
theorem z2P (okT:Tst->Bool) (okC:Cel->Bool) (okK:List Int->Bool) (d:Nd) (kn:Nat):j1R okT okC okK d=some (kn,true)<->x1Z d.k=kn/\x1U d=true/\okS okT okC okK d=true:=by
 by_cases h1:d.k=1
 ·
  rw [kindIx_1 _ _ _ d h1,show okS okT okC okK d=decide (0<=d.n/\d.n<3) from by simp [okS,h1]];exact j2G (only_1 d h1) (by rw [h1]; rfl)
 by_cases h2:d.k=2
 ·
  rw [kindIx_2 _ _ _ d h2,show okS okT okC okK d=okT d.t from by simp [okS,h2]];exact j2G (only_2 d h2) (by rw [h2]; rfl)
 by_cases h3:d.k=3
 ·
  rw [kindIx_3 _ _ _ d h3,show okS okT okC okK d=(decide (1<=d.cs.length/\d.cs.length<=6)&&d.cs.all okC) from by simp [okS,h3]];exact j2G (only_3 d h3) (by rw [h3]; rfl)
 by_cases h4:d.k=4
 ·
  rw [kindIx_4 _ _ _ d h4,show okS okT okC okK d=(decide (0<=d.a/\d.a<6)&&decide (0<=d.b/\d.b<6)) from by simp [okS,h4]];exact j2G (only_4 d h4) (by rw [h4]; rfl)
 by_cases h5:d.k=5
 ·
  rw [kindIx_5 _ _ _ d h5,show okS okT okC okK d=true from by simp [okS,h5]];exact j2G (only_5 d h5) (by rw [h5]; rfl)
 by_cases h6:d.k=6
 ·
  rw [kindIx_6 _ _ _ d h6,show okS okT okC okK d=true from by simp [okS,h6]];exact j2G (only_6 d h6) (by rw [h6]; rfl)
 by_cases h7:d.k=7
 ·
  rw [kindIx_7 _ _ _ d h7,show okS okT okC okK d=(okK d.ks&&decide (0<=d.g/\d.g<4)&&decide (0<=d.c/\d.c<6)) from by simp [okS,h7]];exact j2G (only_7 d h7) (by rw [h7]; rfl)
 have hk:x1Z d.k = -1:=by simp [x1Z,h1,h2,h3,h4,h5,h6,h7]
 rw [hk];have hn:j1R okT okC okK d=none:=by
  unfold j1R;rw [if_neg (by rw [z2A (by exact h1:d.k≠(q2H d).k)]; decide)];rw [if_neg (by rw [z2A (by exact h2:d.k≠(q2G d).k)]; decide)];rw [if_neg (by rw [z2A (by exact h3:d.k≠(q2F d).k)]; decide)];rw [if_neg (by rw [z2A (by exact h4:d.k≠(q2E d).k)]; decide)];rw [if_neg (by rw [z2A (by exact h5:d.k≠(q2D d).k)]; decide)];rw [if_neg (by rw [z2A (by exact h6:d.k≠(q2C d).k)]; decide)];rw [if_neg (by rw [z2A (by exact h7:d.k≠(q2O d).k)]; decide)]
 rw [hn];constructor
 ·
  intro h; cases h
 ·
  intro h; exact absurd h.1 (by omega)
end Go.Proofs.YtmjaepdplbgohaaGreatDoor.Kd
namespace Go.Proofs.YtmjaepdplbgohaaGreatDoor.Kd
open Go.RowKit Go.Shelf
def x3R (w:World) (okT:Tst->Bool) (okC:Cel->Bool) (okK:List Int->Bool):Prop:=
 (∀ (t:Tst) (w':World),Below w.heap.size w w'->Calls Tryz.prog 103 #[.agg (t10 t).toArray,.int .i64 6] w' fun e w''=>e = .returned (.bool (okT t))/\Below w'.heap.size w' w'') ∧
 (∀ (cs:List Cel) (v:Value) (w':World),Below w.heap.size w w'->q1J w' v cs->cs.length<=1048576->Calls Tryz.prog 104 #[v,.int .i64 6] w' fun e w''=>e = .returned (.bool (decide (1<=cs.length/\cs.length<=6)&&cs.all okC))/\Below w'.heap.size w' w'') ∧
 (∀ (ks:List Int) (v:Value) (w':World),Below w.heap.size w w'->RawInts w' v ks->ks.length<=1048576->Calls Tryz.prog 106 #[v,.int .i64 6] w' fun e w''=>e = .returned (.bool (okK ks))/\Below w'.heap.size w' w'') ∧
 (∀ (a b:Int) (w':World),b<=6->Calls Tryz.prog 105 #[.int .i64 a,.int .i64 b] w' fun e w''=>e = .returned (.bool (decide (0<=a/\a<b)))/\w'=w'')
def x6M (w0:World) (okT:Tst->Bool) (okC:Cel->Bool) (okK:List Int->Bool) (n:Nat):Prop:=
 ∀ (p:Pl (n+1)) (ca ka da:Option Addr) (cc kc dc:Nat) (dp:Nat) (w:World),Below w0.heap.size w0 w->dp<=1000->q1X (NodeAt n) w p.nd p.kids (.slice ca p.nd.cs.length cc) (.slice ka p.nd.ks.length kc) (.slice da p.kids.length dc)->Pl.sz (n+1) p<=1048576 →
  Calls Tryz.prog 59 #[.agg (p19 p ca cc ka kc da dc).toArray,.int .i64 dp] w fun e w'=>e = .returned (.bool (v1P okT okC okK (n+1) p dp))/\Below w.heap.size w w'
theorem j3V (w0:World) (okT:Tst->Bool) (okC:Cel->Bool) (okK:List Int->Bool) (hS:x3R w0 okT okC okK) (n:Nat) (IH:∀ m,n=m+1->x6M w0 okT okC okK m):x6M w0 okT okC okK n:=by
 intro p ca ka da cc kc dc dp w hw0 hdp hp hz;obtain ⟨hcs,hks,hkd⟩:=hp;have HKD:=hidden hkd;have HCS:=hidden hcs;have HKS:=hidden hks;have HIH:=hidden IH;have HS:=hidden hS;have HW0:=hidden hw0;have hsz:=Pl.sz_succ p;have hln:p.kids.length<=1048576:=by omega
 have hlc:p.nd.cs.length<=1048576:=by omega
 have hlk:p.nd.ks.length<=1048576:=by omega
 have hform:v1P okT okC okK (n+1) p dp=(decide (1<=dp)&&decide (j1R okT okC okK p.nd=some (p.kids.length,true))&&p.kids.all fun k=>v1P okT okC okK n k (dp - 1)):=rfl;clear hcs hks hkd IH hS hw0;have hla:(Tryz.prog.info? 31).map (·.size)=some (p19 p ca cc ka kc da dc).length:=by kernel_rfl
 have HA:Hid ((w.alloc (.cells (p19 p ca cc ka kc da dc).toArray 31)).heap[w.heap.size]? = some (.cells (p19 p ca cc ka kc da dc).toArray 31)):=alloc_at _ _;have HB:Hid (Below w.heap.size w (w.alloc (.cells (p19 p ca cc ka kc da dc).toArray 31))):=z1B _;have KP:Hid (∀ X:World,Below (w.alloc (.cells (p19 p ca cc ka kc da dc).toArray 31)).heap.size (w.alloc (.cells (p19 p ca cc ka kc da dc).toArray 31)) X->(fun X:World=>X.cell? ⟨w.heap.size,0,none⟩=some (.int .i64 p.nd.k)/\X.cell? ⟨w.heap.size,18,none⟩=some (.slice da p.kids.length dc)/\X.rangeAt w.heap.size 0 (p19 p ca cc ka kc da dc)) X):=fun X hX=>⟨cell_at (z1F HA.out hX) rfl,cell_at (z1F HA.out hX) rfl,q1T (z1F HA.out hX)⟩;by_cases hd1:1<=dp
 ·
  have hdB:decide ((dp:Int)<1)=false:=by simp; omega
  by_cases hk:x1Z p.nd.k=p.kids.length
  ·
   have hkB:(x1Z p.nd.k != (p.kids.length:Int))=false:=by simp [hk]
   cases hcl:x1U p.nd with
   | false=>
    have hno:v1P okT okC okK (n+1) p dp=false:=by
     rw [hform,decide_eq_true hd1,decide_eq_false (fun h=>by have:=((z2P okT okC okK p.nd _).1 h).2.1; rw [hcl] at this; cases this)];simp
    rw [hno];clear hform hno hk;go_enter Tryz.func59,Tryz.ntmps59;go_wp2_with fail;refine wp_region_held_drew (S:=(fun X:World=>X.cell? ⟨w.heap.size,0,none⟩=some (.int .i64 p.nd.k)/\X.cell? ⟨w.heap.size,18,none⟩=some (.slice da p.kids.length dc)/\X.rangeAt w.heap.size 0 (p19 p ca cc ka kc da dc))) (by kernel_rfl) ?_ (fun hHeld=> ?_)
    ·
     (try dsimp only); exact KP.out _ (below_drewN (Below.refl _ _) 1)
    refine tk 0 ?_; simp only [ap];refine tk 1 ?_; simp only [ap];refine tk 2 ?_; simp only [ap];refine tk 3 ?_; simp only [ap];refine tk 4 ?_; simp only [ap];refine tk 6 ?_; simp only [ap];refine tk 7 ?_; simp only [ap];refine tk 8 ?_; simp only [ap];refine r1 5 (fun K hK=> ?_);go_simp;(go_at_call 101; refine (z2I _ _).mono ?_; rintro e w1 ⟨rfl,rfl⟩);refine hK.out _ _ ?_ (fun hHeld=> ?_)
    ·
     (try dsimp only); exact hHeld
    clear hK K;try simp only [ap]
    refine tk 9 ?_; simp only [ap];refine tk 10 ?_; simp only [ap];refine tk 11 ?_; simp only [ap];refine tl 12 (v:=.agg (p19 p ca cc ka kc da dc).toArray) rfl (yieldsIf_load_mid (by rfl) 31 _ rfl w.heap.size 0 rfl (p19 p ca cc ka kc da dc) _ (fun x h=>h.2.2) Tryz.underlying31 rfl hla) ?_;simp only [ap];refine r1 13 (fun K hK=> ?_);go_simp;(go_at_call 102; refine (j2F p.nd ca ka cc kc _ _).mono ?_; rw [hcl]; rintro e w1 ⟨rfl,hb1⟩; have HZ:=hidden (z1A (below_drewN (Below.refl _ _) 1) hb1); clear hb1);refine hK.out _ _ ?_ (fun hHeld=> ?_)
    ·
     (try dsimp only); exact KP.out _ HZ.out
    clear hK K;try simp only [ap]
    refine tk 14 ?_; simp only [ap];refine tk 15 ?_; simp only [ap];refine dn ?_;have HE:=hidden (z1A HB.out HZ.out);clear hHeld KP;go_wp2_with fail;go_ret;exact ⟨rfl,HE.out⟩
   | true=>
    obtain ⟨c,hc⟩:∃ c,c=okS okT okC okK p.nd:=⟨_,rfl⟩;have hyes:v1P okT okC okK (n+1) p dp=(c&&p.kids.all fun k=>v1P okT okC okK n k (dp - 1)):=by
     rw [hform,decide_eq_true hd1,Bool.true_and];congr 1;rw [hc];cases ho:okS okT okC okK p.nd with
     | true=>exact decide_eq_true ((z2P okT okC okK p.nd _).2 ⟨hk,hcl,ho⟩)
     | false=>exact decide_eq_false (fun h=>by have:=((z2P okT okC okK p.nd _).1 h).2.2; rw [ho] at this; cases this)
    rw [hyes];have HC:=hidden hc;clear hform hyes hc;go_enter Tryz.func59,Tryz.ntmps59;go_wp2_with fail;refine wp_region_held_drew (S:=(fun X:World=>X.cell? ⟨w.heap.size,0,none⟩=some (.int .i64 p.nd.k)/\X.cell? ⟨w.heap.size,18,none⟩=some (.slice da p.kids.length dc)/\X.rangeAt w.heap.size 0 (p19 p ca cc ka kc da dc))) (by kernel_rfl) ?_ (fun hHeld=> ?_)
    ·
     (try dsimp only); exact KP.out _ (below_drewN (Below.refl _ _) 1)
    refine tk 0 ?_; simp only [ap];refine tk 1 ?_; simp only [ap];refine tk 2 ?_; simp only [ap];refine tk 3 ?_; simp only [ap];refine tk 4 ?_; simp only [ap];refine tk 6 ?_; simp only [ap];refine tk 7 ?_; simp only [ap];refine tk 8 ?_; simp only [ap];refine r1 5 (fun K hK=> ?_);go_simp;(go_at_call 101; refine (z2I _ _).mono ?_; rintro e w1 ⟨rfl,rfl⟩);refine hK.out _ _ ?_ (fun hHeld=> ?_)
    ·
     (try dsimp only); exact hHeld
    clear hK K;try simp only [ap]
    refine tk 9 ?_; simp only [ap];refine tk 10 ?_; simp only [ap];refine tk 11 ?_; simp only [ap];refine tl 12 (v:=.agg (p19 p ca cc ka kc da dc).toArray) rfl (yieldsIf_load_mid (by rfl) 31 _ rfl w.heap.size 0 rfl (p19 p ca cc ka kc da dc) _ (fun x h=>h.2.2) Tryz.underlying31 rfl hla) ?_;simp only [ap];refine r1 13 (fun K hK=> ?_);go_simp;(go_at_call 102; refine (j2F p.nd ca ka cc kc _ _).mono ?_; rw [hcl]; rintro e w1 ⟨rfl,hb1⟩; have HZ:=hidden (z1A (below_drewN (Below.refl _ _) 1) hb1); clear hb1);refine hK.out _ _ ?_ (fun hHeld=> ?_)
    ·
     (try dsimp only); exact KP.out _ HZ.out
    clear hK K;try simp only [ap]
    refine tk 14 ?_; simp only [ap];refine tk 15 ?_; simp only [ap];refine dn ?_;have HE:=hidden (z1A HB.out HZ.out);have HX1:=hidden (z1F HA.out HZ.out);have HQ0:=hidden hHeld;clear hHeld KP;have g0:=cell_at (j:=0) HX1.out rfl;go_upto_block 0 with fail
    go_cut [5] (fun okv wx=>okv = .bool c/\Hid (Below w.heap.size w wx/\wx.heap[w.heap.size]? = some (.cells (p19 p ca cc ka kc da dc).toArray 31)))
    case first=>
     have g1:=cell_at (j:=1) HX1.out rfl;have g12:=cell_at (j:=12) HX1.out rfl;have g13:=cell_at (j:=13) HX1.out rfl;have g14:=cell_at (j:=14) HX1.out rfl;have g15:=cell_at (j:=15) HX1.out rfl;have g16:=cell_at (j:=16) HX1.out rfl;have g17:=cell_at (j:=17) HX1.out rfl;have HT10:=hidden (x1Q (q1T HX1.out));have hlt:(Tryz.prog.info? 26).map (·.size)=some (t10 p.nd.t).length:=by kernel_rfl
     have HBW:=hidden (z1A HW0.out HE.out);have HOC:=HC.out;unfold okS at HOC;have HCC:=hidden HOC;clear hcl hk hkB hdB HOC HQ0;by_cases k1:p.nd.k=1
     ·
      have q1:(p.nd.k==1)=true:=by simpa using k1
      rw [if_pos k1] at HCC;clear k1;by_cases ha:0<=p.nd.n
      ·
       by_cases hb:p.nd.n<3
       ·
        rw [decide_eq_true ⟨ha,hb⟩] at HCC;go_wp2_with fail;go_meet
        case rel=>exact ⟨by rw [HCC.out],HE.out,HX1.out⟩
       ·
        have hb':3<=p.nd.n:=by omega
        rw [decide_eq_false (fun h=>hb h.2)] at HCC;go_wp2_with fail;go_meet
        case rel=>exact ⟨by rw [HCC.out],HE.out,HX1.out⟩
      ·
       have ha':p.nd.n<0:=by omega
       rw [decide_eq_false (fun h=>ha h.1)] at HCC;go_wp2_with fail;go_meet
       case rel=>exact ⟨by rw [HCC.out],HE.out,HX1.out⟩
     rw [if_neg k1] at HCC;have q1:(p.nd.k==1)=false:=by simpa using k1
     clear k1;by_cases k2:p.nd.k=2
     ·
      have q2:(p.nd.k==2)=true:=by simpa using k2
      rw [if_pos k2] at HCC;clear k2;go_wp2_with (first | refine wpList_load_mid rfl 26 _ rfl w.heap.size 2 rfl _ _ HT10.out Tryz.underlying26 rfl hlt ?_ | (go_at_call 103; refine (HS.out.1 p.nd.t _ HBW.out).mono ?_; rintro e w2 ⟨rfl,hb2⟩; have HE2:=hidden (z1A HE.out hb2); have HX2:=hidden (z1F HX1.out hb2); clear hb2));go_meet
      case rel=>exact ⟨by rw [HCC.out],HE2.out,HX2.out⟩
     rw [if_neg k2] at HCC;have q2:(p.nd.k==2)=false:=by simpa using k2
     clear k2;by_cases k3:p.nd.k=3
     ·
      have q3:(p.nd.k==3)=true:=by simpa using k3
      rw [if_pos k3] at HCC;clear k3;go_wp2_with (go_at_call 104; refine (HS.out.2.1 p.nd.cs _ _ HBW.out (HCS.out.below HE.out) hlc).mono ?_; rw [<-HCC.out]; rintro e w2 ⟨rfl,hb2⟩; have HE2:=hidden (z1A HE.out hb2); have HX2:=hidden (z1F HX1.out hb2); clear hb2);go_meet
      case rel=>exact ⟨rfl,HE2.out,HX2.out⟩
     rw [if_neg k3] at HCC;have q3:(p.nd.k==3)=false:=by simpa using k3
     clear k3;by_cases k4:p.nd.k=4
     ·
      have q4:(p.nd.k==4)=true:=by simpa using k4
      rw [if_pos k4] at HCC;clear k4;cases ha:decide (0<=p.nd.a/\p.nd.a<6) with
      | false=>
       rw [ha,Bool.false_and] at HCC;go_wp2_with (go_at_call 105; refine (HS.out.2.2.2 _ _ _ (by decide)).mono ?_; rw [ha]; rintro e w2 ⟨rfl,rfl⟩);go_meet
       case rel=>exact ⟨by rw [HCC.out],HE.out,HX1.out⟩
      | true=>
       rw [ha,Bool.true_and] at HCC;go_wp2_with (go_at_call 105; refine (HS.out.2.2.2 _ _ _ (by decide)).mono ?_; first | (rw [ha]; rintro e w2 ⟨rfl,rfl⟩) | (rw [<-HCC.out]; rintro e w2 ⟨rfl,rfl⟩));go_meet
       case rel=>exact ⟨rfl,HE.out,HX1.out⟩
     rw [if_neg k4] at HCC;have q4:(p.nd.k==4)=false:=by simpa using k4
     clear k4;by_cases k7:p.nd.k=7
     ·
      have q7:(p.nd.k==7)=true:=by simpa using k7
      rw [if_pos k7] at HCC;clear k7;cases hkk:okK p.nd.ks with
      | false=>
       rw [hkk,Bool.false_and,Bool.false_and] at HCC;go_wp2_with (go_at_call 106; refine (HS.out.2.2.1 p.nd.ks _ _ HBW.out (HKS.out.below HE.out) hlk).mono ?_; rw [hkk]; rintro e w2 ⟨rfl,hb2⟩; have HE2:=hidden (z1A HE.out hb2); have HX2:=hidden (z1F HX1.out hb2); have g16:=cell_at (j:=16) HX2.out rfl; have g17:=cell_at (j:=17) HX2.out rfl; clear hb2);go_meet
       case rel=>exact ⟨by rw [HCC.out],HE2.out,HX2.out⟩
      | true=>
       rw [hkk,Bool.true_and] at HCC;by_cases ha:0<=p.nd.g
       ·
        by_cases hb:p.nd.g<=3
        ·
         rw [decide_eq_true ⟨ha,by omega⟩,Bool.true_and] at HCC;go_wp2_with (first | (go_at_call 106; refine (HS.out.2.2.1 p.nd.ks _ _ HBW.out (HKS.out.below HE.out) hlk).mono ?_; rw [hkk]; rintro e w2 ⟨rfl,hb2⟩; have HE2:=hidden (z1A HE.out hb2); have HX2:=hidden (z1F HX1.out hb2); have g16:=cell_at (j:=16) HX2.out rfl; have g17:=cell_at (j:=17) HX2.out rfl; clear hb2) | (go_at_call 105; refine (HS.out.2.2.2 _ _ _ (by decide)).mono ?_; rw [<-HCC.out]; rintro e w3 ⟨rfl,rfl⟩));go_meet
         case rel=>exact ⟨rfl,HE2.out,HX2.out⟩
        ·
         have hb':3<p.nd.g:=by omega
         rw [decide_eq_false (fun h=>by omega),Bool.false_and] at HCC;go_wp2_with (go_at_call 106; refine (HS.out.2.2.1 p.nd.ks _ _ HBW.out (HKS.out.below HE.out) hlk).mono ?_; rw [hkk]; rintro e w2 ⟨rfl,hb2⟩; have HE2:=hidden (z1A HE.out hb2); have HX2:=hidden (z1F HX1.out hb2); have g16:=cell_at (j:=16) HX2.out rfl; have g17:=cell_at (j:=17) HX2.out rfl; clear hb2);go_meet
         case rel=>exact ⟨by rw [HCC.out],HE2.out,HX2.out⟩
       ·
        have ha':p.nd.g<0:=by omega
        rw [decide_eq_false (fun h=>ha h.1),Bool.false_and] at HCC;go_wp2_with (go_at_call 106; refine (HS.out.2.2.1 p.nd.ks _ _ HBW.out (HKS.out.below HE.out) hlk).mono ?_; rw [hkk]; rintro e w2 ⟨rfl,hb2⟩; have HE2:=hidden (z1A HE.out hb2); have HX2:=hidden (z1F HX1.out hb2); have g16:=cell_at (j:=16) HX2.out rfl; have g17:=cell_at (j:=17) HX2.out rfl; clear hb2);go_meet
        case rel=>exact ⟨by rw [HCC.out],HE2.out,HX2.out⟩
     rw [if_neg k7] at HCC;have q7:(p.nd.k==7)=false:=by simpa using k7
     clear k7;go_wp2_with fail;go_meet
     case rel=>exact ⟨by rw [HCC.out],HE.out,HX1.out⟩
    case rest=>
     obtain ⟨rfl,HWX⟩:=hcut;obtain ⟨hbx,hboxx⟩:=HWX.out;have g18:=cell_at (j:=18) hboxx rfl;clear HA HB HE HX1 HQ0 HZ;go_wp2_with fail;go_loopw [5,6] (fun okv i wr=> ∃ (k:Nat) (b:Bool),k<=p.kids.length/\i = .int .i64 k/\okv = .bool b/\Hid (b=(c&&(p.kids.take k).all fun x=>v1P okT okC okK n x (dp - 1)))/\Hid (Below w.heap.size w wr/\wr.heap[w.heap.size]? = some (.cells (p19 p ca cc ka kc da dc).toArray 31))) (fun _ i _=>p.kids.length - (intOf i).toNat)
     case atStart=>exact ⟨0,c,Nat.zero_le _,rfl,rfl,by show c=_; simp,hbx,hboxx⟩
     case round=>
      obtain ⟨k,b,hk,rfl,rfl,HBB,HWR⟩:=hrel;obtain ⟨hbw,hbox⟩:=HWR.out;have hcel:=cell_at (j:=18) hbox rfl;clear g18 hbx hboxx HWX;by_cases hlt:k<p.kids.length
      ·
       have hltI:(k:Int)<(p.kids.length:Int):=by omega
       cases b with
       | false=>
        go_wp2_with fail;go_ret;refine ⟨?_,hbw⟩;have h1:=HBB.out;have h2:(c&&p.kids.all fun x=>v1P okT okC okK n x (dp - 1))=false:=by
         cases c with
         | false=>rfl
         | true=>
          rw [Bool.true_and] at h1 ⊢;rw [<-List.take_append_drop k p.kids,List.all_append,<-h1];rfl
        rw [h2];rfl
       | true=>
       cases n with
       | zero=>cases p.kids[k]
       | succ m=>
       obtain ⟨_,a0,cap0,heq,-,hcs⟩:=id HKD.out;obtain ⟨kb,ko,rfl,hkb,hnode⟩:=hcs (fun h=>by rw [h] at hlt; exact absurd hlt (Nat.not_lt_zero _));obtain ⟨rfl,-,rfl⟩:da=some ⟨kb,ko,none⟩/\True/\dc=cap0:=by simpa using heq
       obtain ⟨x,HX⟩:∃ x,Hid (x=p.kids[k]):=⟨p.kids[k],Eq.refl p.kids[k]⟩;have hnd:=hnode k hlt;rw [<-HX.out] at hnd;obtain ⟨_,xc,xk,xv,hfl,hpr⟩:=hnd;obtain ⟨_,xa,xd,rfl,_⟩:=id hpr.2.2;obtain ⟨_,xca,xcc,rfl,_⟩:=id hpr.1;obtain ⟨_,xka,xkc,rfl,_⟩:=id hpr.2.1;have HRX:Hid (wr.rangeAt kb (ko+k*19) (p19 x xca xcc xka xkc xa xd)):=fun j v hv=>(hbw.cell (p:=⟨kb,ko+k*19+j,none⟩) hkb).trans (hfl.range j v hv);have hlx:(Tryz.prog.info? 31).map (·.size)=some (p19 x xca xcc xka xkc xa xd).length:=by kernel_rfl
       have hszx:Pl.sz (m+1) x<=1048576:=by
        have h1:=k1B hlt;rw [<-HX.out] at h1;unfold k1X at h1;omega
       have HIX:=hidden (HIH.out m rfl x xca xka xa xcc xkc xd (dp - 1) wr (z1A HW0.out hbw) (by omega) (hpr.below hbw fun b o y h=>NodeAt.below m h hbw) hszx);have hdm:((dp - 1:Nat):Int)=(dp:Int) - 1:=by omega
       rw [hdm] at HIX;have hwr1:IntKind.i64.wrap ((dp:Int) - 1)=(dp:Int) - 1:=by rw [wrap_small] <;> omega
       obtain ⟨y,hy⟩:∃ y,y=v1P okT okC okK (m+1) x (dp - 1):=⟨_,rfl⟩;rw [<-hy] at HIX;have HY:=hidden hy;clear hnode hcs heq hfl hpr HKD hy hdB;go_wp2_with (first | refine wpList_load_mid rfl 31 _ rfl kb (ko+k*19) rfl _ _ HRX.out Tryz.underlying31 rfl hlx ?_ | (go_at_call 59; refine HIX.out.mono ?_; rintro e W4 ⟨rfl,hb4⟩; have HB4:=hidden (z1A hbw hb4); have HX4:=hidden (z1F hbox hb4); clear hb4));refine ⟨⟨k+1,y,by omega,rfl,rfl,?_,HB4.out,HX4.out⟩,by simp [intOf]; omega⟩;show y=_;rw [List.take_succ_eq_append_getElem hlt,List.all_append,<-Bool.and_assoc,<-HBB.out,<-HX.out,HY.out];simp
      ·
       have hltI:(p.kids.length:Int)<=(k:Int):=by omega
       have e:k=p.kids.length:=by omega
       go_wp2_with fail;go_ret;refine ⟨?_,hbw⟩;have h1:=HBB.out;rw [e,List.take_length] at h1;rw [<-h1];rfl
  ·
   have hkB:(x1Z p.nd.k != (p.kids.length:Int))=true:=by simpa using hk
   have hno:v1P okT okC okK (n+1) p dp=false:=by
    rw [hform,decide_eq_true hd1,decide_eq_false (fun h=>hk ((z2P okT okC okK p.nd _).1 h).1)];simp
   rw [hno];clear hform hno hk;go_enter Tryz.func59,Tryz.ntmps59;go_wp2_with fail;refine wp_region_held_drew (S:=(fun X:World=>X.cell? ⟨w.heap.size,0,none⟩=some (.int .i64 p.nd.k)/\X.cell? ⟨w.heap.size,18,none⟩=some (.slice da p.kids.length dc)/\X.rangeAt w.heap.size 0 (p19 p ca cc ka kc da dc))) (by kernel_rfl) ?_ (fun hHeld=> ?_)
   ·
    (try dsimp only); exact KP.out _ (below_drewN (Below.refl _ _) 1)
   refine tk 0 ?_; simp only [ap];refine tk 1 ?_; simp only [ap];refine tk 2 ?_; simp only [ap];refine tk 3 ?_; simp only [ap];refine tk 4 ?_; simp only [ap];refine tk 6 ?_; simp only [ap];refine tk 7 ?_; simp only [ap];refine tk 8 ?_; simp only [ap];refine r1 5 (fun K hK=> ?_);go_simp;(go_at_call 101; refine (z2I _ _).mono ?_; rintro e w1 ⟨rfl,rfl⟩);refine hK.out _ _ ?_ (fun hHeld=> ?_)
   ·
    (try dsimp only); exact hHeld
   clear hK K;try simp only [ap]
   refine tk 9 ?_; simp only [ap];refine tk 10 ?_; simp only [ap];refine tk 11 ?_; simp only [ap];refine tu 12 ?_; simp only [ap];refine tu 13 ?_; simp only [ap];refine tu 14 ?_; simp only [ap];refine tk 15 ?_; simp only [ap];refine dn ?_;have HE:=hidden (below_drewN HB.out 1);clear hHeld KP;go_wp2_with fail;go_ret;exact ⟨rfl,HE.out⟩
 ·
  have e:dp=0:=by omega
  subst e;have hno:v1P okT okC okK (n+1) p 0=false:=by rw [hform]; simp
  rw [hno];clear hform hno;go_enter Tryz.func59,Tryz.ntmps59;go_wp2_with fail;refine wp_region_held_drew (S:=(fun X:World=>X.cell? ⟨w.heap.size,0,none⟩=some (.int .i64 p.nd.k)/\X.cell? ⟨w.heap.size,18,none⟩=some (.slice da p.kids.length dc)/\X.rangeAt w.heap.size 0 (p19 p ca cc ka kc da dc))) (by kernel_rfl) ?_ (fun hHeld=> ?_)
  ·
   (try dsimp only); exact KP.out _ (below_drewN (Below.refl _ _) 1)
  refine tk 0 ?_; simp only [ap];refine tk 1 ?_; simp only [ap];refine tk 2 ?_; simp only [ap];refine tu 3 ?_; simp only [ap];refine tu 4 ?_; simp only [ap];refine tu 5 ?_; simp only [ap];refine tu 6 ?_; simp only [ap];refine tu 7 ?_; simp only [ap];refine tu 8 ?_; simp only [ap];refine tu 9 ?_; simp only [ap];refine tk 10 ?_; simp only [ap];refine tk 11 ?_; simp only [ap];refine tu 12 ?_; simp only [ap];refine tu 13 ?_; simp only [ap];refine tu 14 ?_; simp only [ap];refine tk 15 ?_; simp only [ap];refine dn ?_;have HE:=hidden (below_drewN HB.out 1);clear hHeld KP;go_wp2_with fail;go_ret;exact ⟨rfl,HE.out⟩
theorem x5W (w0:World) (okT:Tst->Bool) (okC:Cel->Bool) (okK:List Int->Bool) (hS:x3R w0 okT okC okK):∀ n,x6M w0 okT okC okK n:=by
 intro n;induction n with
 | zero=>exact j3V w0 okT okC okK hS 0 (fun m h=>by cases h)
 | succ n ih=>exact j3V w0 okT okC okK hS (n+1) (fun m h=>by cases h; exact ih)
theorem q6L {okT:Tst->Bool} {okC:Cel->Bool} {okK:List Int->Bool}:∀ (n:Nat) (p:Pl n) (d:Nat),v1P okT okC okK n p d=true->manyD n p d=cnt n p:=by
 intro n;induction n with
 | zero=>intro p d h; cases h
 | succ n ih=>
  intro p d h;have h:=x1M.1 h;rw [x2X,k2Y,if_neg (by omega)];congr 2;exact List.map_congr_left fun k hk=>ih k _ (h.2.2 k hk)
theorem q6R (w0:World) (okT:Tst->Bool) (okC:Cel->Bool) (okK:List Int->Bool) (hS:x3R w0 okT okC okK) (n:Nat) (p:Pl (n+1)) (ca ka da:Option Addr) (cc kc dc:Nat) (w:World) (hw0:Below w0.heap.size w0 w) (hp:q1X (NodeAt n) w p.nd p.kids (.slice ca p.nd.cs.length cc) (.slice ka p.nd.ks.length kc) (.slice da p.kids.length dc)) (hz:Pl.sz (n+1) p<=1048576) :
  Calls Tryz.prog 23 #[.agg (p19 p ca cc ka kc da dc).toArray] w fun e w'=>e = .returned (.bool (q3V okT okC okK (n+1) p))/\Below w.heap.size w w':=by
 have hla:(Tryz.prog.info? 31).map (·.size)=some (p19 p ca cc ka kc da dc).length:=by kernel_rfl
 have HB:Hid (Below w.heap.size w (w.alloc (.cells (p19 p ca cc ka kc da dc).toArray 31))):=z1B _;have HA:Hid ((w.alloc (.cells (p19 p ca cc ka kc da dc).toArray 31)).heap[w.heap.size]? = some (.cells (p19 p ca cc ka kc da dc).toArray 31)):=alloc_at _ _;have HR:Hid ((w.alloc (.cells (p19 p ca cc ka kc da dc).toArray 31)).rangeAt w.heap.size 0 (p19 p ca cc ka kc da dc)):=q1T HA.out;have HF:=hidden (x5W w0 okT okC okK hS n p ca ka da cc kc dc 6 _ (z1A hw0 HB.out) (by decide) (hp.below HB.out fun b o x h=>NodeAt.below n h HB.out) hz);have HM:=hidden (fun w' (hb:Below w.heap.size w w')=>l4Many_any n p ca ka da cc kc dc 6 w' (by decide) (hp.below hb fun b o x h=>NodeAt.below n h hb) hz);clear hp hw0;cases hf:v1P okT okC okK (n+1) p 6 with
 | false=>
  have hc:q3V okT okC okK (n+1) p=false:=by simp [q3V,hf]
  rw [hc];rw [hf] at HF;clear hc hf;go_enter Tryz.func23,Tryz.ntmps23;go_wp2_with (first | refine wpList_load_mid rfl 31 _ rfl w.heap.size 0 rfl _ _ HR.out Tryz.underlying31 rfl hla ?_ | (go_at_call 59; refine HF.out.mono ?_; rintro e w1 ⟨rfl,hb1⟩; have HB1:=hidden (z1A HB.out hb1); clear hb1));go_ret;exact ⟨rfl,HB1.out⟩
 | true=>
  have hm:=q6L (n+1) p 6 hf;have hc:q3V okT okC okK (n+1) p=decide (cnt (n+1) p<=10):=by simp [q3V,hf]
  rw [hc];rw [hf] at HF;rw [hm] at HM;obtain ⟨C,hC⟩:∃ C,C=cnt (n+1) p:=⟨_,rfl⟩;rw [<-hC] at HM ⊢;have hd:decide (C<=10)=decide ((C:Int)<=10):=by congr 1; exact propext (by omega)
  have HD:=hidden hd;clear hc hf hm hC hd;go_enter Tryz.func23,Tryz.ntmps23;go_wp2_with (first | refine wpList_load_mid rfl 31 _ rfl w.heap.size 0 rfl _ _ HR.out Tryz.underlying31 rfl hla ?_ | (refine k1T (by rfl) 31 _ rfl w.heap.size 0 rfl (p19 p ca cc ka kc da dc) _ HR1.out Tryz.underlying31 rfl hla ?_) | (go_at_call 59; refine HF.out.mono ?_; rintro e w1 ⟨rfl,hb1⟩; have HB1:=hidden (z1A HB.out hb1); have HR1:=hidden (q1T (z1F HA.out hb1)); clear hb1) | (go_at_call 60; refine (HM.out _ HB1.out).mono ?_; rintro e w2 ⟨rfl,hb2⟩; have HB2:=hidden (z1A HB1.out hb2); clear hb2));go_ret;exact ⟨by rw [HD.out]; rfl,HB2.out⟩
def q3W (w:World) (fW:Tst->List It->Told) (fM:List Cel->List It->Told) (fJ:List It->List It->Int->Int->Told) (fA:List It->List It->Told) (fP:List It->List It) (fG:List It->List Int->Int->Int->Told):Prop:=
 (∀ (t:Tst) (v:Value) (z:List It) (w':World),Below w.heap.size w w'->q1Y w' v z->Calls Tryz.prog 63 #[v,.agg (t10 t).toArray] w' (v1A w' (fW t z))) ∧
 (∀ (cs:List Cel) (u v:Value) (z:List It) (w':World),Below w.heap.size w w'->q1Y w' v z->q1J w' u cs->cs.length<=1048576->Calls Tryz.prog 64 #[v,u] w' (v1A w' (fM cs z))) ∧
 (∀ (v u:Value) (y z:List It) (a b:Int) (w':World),Below w.heap.size w w'->q1Y w' v y->q1Y w' u z->Calls Tryz.prog 65 #[v,u,.int .i64 a,.int .i64 b] w' (v1A w' (fJ y z a b))) ∧
 (∀ (v u:Value) (y z:List It) (w':World),Below w.heap.size w w'->q1Y w' v y->q1Y w' u z->Calls Tryz.prog 66 #[v,u] w' (v1A w' (fA y z))) ∧
 (∀ (v:Value) (z:List It) (w':World),Below w.heap.size w w'->q1Y w' v z->Calls Tryz.prog 67 #[v] w' fun e w2=> ∃ v',e = .returned v'/\z1V w2 w'.heap.size w2.heap.size v' (fP z)/\Below w'.heap.size w' w2) ∧
 (∀ (ks:List Int) (u v:Value) (z:List It) (g c:Int) (w':World),Below w.heap.size w w'->q1Y w' v z->RawInts w' u ks->ks.length<=1048576->Calls Tryz.prog 68 #[v,u,.int .i64 g,.int .i64 c] w' (v1A w' (fG z ks g c)))
def v2W (ts:List (List It)):Prop:=∀ j,j<ts.length->(ts.getD j []).length<=1048576/\∀ k,k<(ts.getD j []).length->((ts.getD j []).getD k ([],0)).1.length<=8796093022208
def z5L (w0:World) (ta:Option Addr) (tn tc:Nat) (ts:List (List It)) (fW:Tst->List It->Told) (fM:List Cel->List It->Told) (fJ:List It->List It->Int->Int->Told) (fA:List It->List It->Told) (fP:List It->List It) (fG:List It->List Int->Int->Int->Told) (okT:Tst->Bool) (okC:Cel->Bool) (okK:List Int->Bool) (n:Nat):Prop:=
 ∀ (p:Pl (n+1)) (ca ka da:Option Addr) (cc kc dc:Nat) (w:World),Below w0.heap.size w0 w->q1X (NodeAt n) w p.nd p.kids (.slice ca p.nd.cs.length cc) (.slice ka p.nd.ks.length kc) (.slice da p.kids.length dc)->Pl.sz (n+1) p<=1048576->(∃ deep,v1P okT okC okK (n+1) p deep=true) →
  Calls Tryz.prog 24 #[.agg (p19 p ca cc ka kc da dc).toArray,.slice ta tn tc] w (v1A w (told (x1I (j1V ts fW fM fJ fA fP fG) (n+1) p)))
theorem j3R (w0:World) (ta:Option Addr) (tn tc:Nat) (ts:List (List It)) (ht:ZssAt w0 (.slice ta tn tc) ts) (hsm:v2W ts) (fW:Tst->List It->Told) (fM:List Cel->List It->Told) (fJ:List It->List It->Int->Int->Told) (fA:List It->List It->Told) (fP:List It->List It) (fG:List It->List Int->Int->Int->Told) (okT:Tst->Bool) (okC:Cel->Bool) (okK:List Int->Bool) (hF:∀ d ks,(j1V ts fW fM fJ fA fP fG d ks).1=false->(j1V ts fW fM fJ fA fP fG d ks).2=[]) (hM:q3W w0 fW fM fJ fA fP fG) (n:Nat) (IH:∀ m,n=m+1->z5L w0 ta tn tc ts fW fM fJ fA fP fG okT okC okK m):z5L w0 ta tn tc ts fW fM fJ fA fP fG okT okC okK n:=by
 intro p ca ka da cc kc dc w hw0 hp hz hform;obtain ⟨deep,hform⟩:=hform;have HFORM:=hidden (x1M.1 hform);obtain ⟨hcs,hks,hkd⟩:=hp;have HCS:=hidden hcs;have HKS:=hidden hks;have HKD:=hidden hkd;have HM:=hidden hM;have HIH:=hidden IH;have HW0:=hidden hw0;have HF:=hidden hF;have HT:=hidden ht;have HSM:=hidden hsm;have hsz:=Pl.sz_succ p;have hlc:p.nd.cs.length<=1048576:=by omega
 have hlk:p.nd.ks.length<=1048576:=by omega
 have hln:p.kids.length<=1048576:=by omega
 clear hcs hks hkd hM IH hw0 hF hform ht hsm;obtain ⟨i0,hi,hz0,hz1,hz2⟩:=info_parts infoRun;have HA:Hid ((w.alloc (.cells (p19 p ca cc ka kc da dc).toArray 31)).heap[w.heap.size]? = some (.cells (p19 p ca cc ka kc da dc).toArray 31)):=alloc_at _ _;have HB1:Hid (Below w.heap.size w (w.alloc (.cells (p19 p ca cc ka kc da dc).toArray 31))):=z1B _;have HA2:Hid (((w.alloc (.cells (p19 p ca cc ka kc da dc).toArray 31)).alloc (.cells #[] 35)).heap[w.heap.size]? = some (.cells (p19 p ca cc ka kc da dc).toArray 31)):=z1F HA.out (z1B _);have HB2:Hid (Below w.heap.size w ((w.alloc (.cells (p19 p ca cc ka kc da dc).toArray 31)).alloc (.cells #[] 35))):=z1A HB1.out (z1B _);have HO2:Hid (x1G ((w.alloc (.cells (p19 p ca cc ka kc da dc).toArray 31)).alloc (.cells #[] 35)) (w.heap.size+1) (.slice (some ⟨(w.alloc (.cells (p19 p ca cc ka kc da dc).toArray 31)).heap.size,0,none⟩) 0 0) []):=x1G.lit (by simp);go_enter Tryz.func24,Tryz.ntmps24;go_wp2_with fail;go_loopw [6,7] (fun kv i wr=> ∃ (k:Nat) (zss:List (List It)) (qa:Option Addr) (qc:Nat),k<=p.kids.length/\i = .int .i64 k/\kv = .slice qa k qc/\Hid (x1G wr (w.heap.size+1) (.slice qa k qc) zss)/\Hid ((p.kids.take k).mapM (x1I (j1V ts fW fM fJ fA fP fG) n)=some zss)/\Hid (Below w.heap.size w wr/\wr.heap[w.heap.size]? = some (.cells (p19 p ca cc ka kc da dc).toArray 31))) (fun _ i _=>p.kids.length - (intOf i).toNat)
 case atStart=>exact ⟨0,[],_,0,Nat.zero_le _,rfl,rfl,by show x1G _ _ _ _; simpa using HO2.out,rfl,HB2.out,HA2.out⟩
 case round=>
  obtain ⟨k,zss,qa,qc,hk,rfl,rfl,HO,HMM,HWR⟩:=hrel;clear HA HB1 HA2 HB2 HO2;obtain ⟨hbw,hbox⟩:=HWR.out;have hcel:=cell_at (j:=18) hbox rfl;by_cases hlt:k<p.kids.length
  ·
   have hltI:(k:Int)<(p.kids.length:Int):=by omega
   cases n with
   | zero=>cases p.kids[k]
   | succ m=>
   obtain ⟨_,a0,cap0,heq,-,hcs⟩:=id HKD.out;obtain ⟨kb,ko,rfl,hkb,hnode⟩:=hcs (fun h=>by rw [h] at hlt; exact absurd hlt (Nat.not_lt_zero _));obtain ⟨rfl,-,rfl⟩:da=some ⟨kb,ko,none⟩/\True/\dc=cap0:=by simpa using heq
   obtain ⟨x,HX⟩:∃ x,Hid (x=p.kids[k]):=⟨p.kids[k],Eq.refl p.kids[k]⟩;have hnd:=hnode k hlt;rw [<-HX.out] at hnd;obtain ⟨_,xc,xk,xv,hfl,hpr⟩:=hnd;obtain ⟨_,xa,xd,rfl,_⟩:=id hpr.2.2;obtain ⟨_,xca,xcc,rfl,_⟩:=id hpr.1;obtain ⟨_,xka,xkc,rfl,_⟩:=id hpr.2.1;have HRX:Hid (wr.rangeAt kb (ko+k*19) (p19 x xca xcc xka xkc xa xd)):=fun j v hv=>(hbw.cell (p:=⟨kb,ko+k*19+j,none⟩) hkb).trans (hfl.range j v hv);have hlx:(Tryz.prog.info? 31).map (·.size)=some (p19 x xca xcc xka xkc xa xd).length:=by kernel_rfl
   have hszx:Pl.sz (m+1) x<=1048576:=by
    have h1:=k1B hlt;rw [<-HX.out] at h1;unfold k1X at h1;omega
   have hfx:∃ deep,v1P okT okC okK (m+1) x deep=true:=⟨_,HFORM.out.2.2 x (by rw [HX.out]; exact List.getElem_mem hlt)⟩;have HIX:=hidden (HIH.out m rfl x xca xka xa xcc xkc xd wr (z1A HW0.out hbw) (hpr.below hbw fun b o y h=>NodeAt.below m h hbw) hszx hfx);have hmt:=j3O (x1I (j1V ts fW fM fJ fA fP fG) (m+1)) p.kids k hlt zss HMM.out;rw [<-HX.out] at hmt;have HMT:=hidden hmt;obtain ⟨ps,hrow,hown⟩:=HO.out;have hzl:zss.length=k:=by rw [z2B _ _ _ HMM.out,List.length_take]; omega
   have HROW:Hid (wr.ownsRow (w.heap.size+1) 35 1 (.slice qa k qc) k ps):=by have h:=hrow; rw [hzl] at h; exact h
   have HOWN:=hidden hown;have HZL:=hidden hzl;clear hnode hcs heq hfl hpr hrow HKD hmt hown hzl;cases hx:x1I (j1V ts fW fM fJ fA fP fG) (m+1) x with
   | none=>
    go_wp2_with (first | refine wpList_load_mid rfl 31 _ rfl kb (ko+k*19) rfl _ _ HRX.out Tryz.underlying31 rfl hlx ?_ | (go_at_call 24; refine HIX.out.mono ?_; rw [hx]; rintro e W4 ⟨v4,rfl,O4,hb4⟩; obtain ⟨ya,yn,yc,rfl⟩:=j1Q O4; have HB4:=hidden hb4; have HO4:=hidden O4; have hr4:=x1R (x1R HROW.out HB4.out) (z1B (.cells #[.slice ya yn yc] 35)); have hnews:∀ j u,([.slice ya yn yc]:List Value)[j]? = some u->(W4.alloc (.cells #[.slice ya yn yc] 35)).cell? ((⟨W4.heap.size,0,none⟩:Addr).add j)=some u:=(q3R _ _); clear O4 hb4));go_ret2;have hno:x1I (j1V ts fW fM fJ fA fP fG) (m+1+1) p=none:=by
     rw [z2H,j4W _ _ (k+1) (by rw [HMT.out,hx]; rfl)];rfl
    rw [hno];exact ⟨_,rfl,(z1T W4).wide (z1A hbw HB4.out).size (Nat.le_refl _) (Nat.le_refl _),z1A (z1A hbw HB4.out) (z1B _)⟩
   | some z=>
    go_wp2_with (first | refine wpList_load_mid rfl 31 _ rfl kb (ko+k*19) rfl _ _ HRX.out Tryz.underlying31 rfl hlx ?_ | (go_at_call 24; refine HIX.out.mono ?_; rw [hx]; rintro e W4 ⟨v4,rfl,O4,hb4⟩; obtain ⟨ya,yn,yc,rfl⟩:=j1Q O4; have HB4:=hidden hb4; have HO4:=hidden O4; have hr4:=x1R (x1R HROW.out HB4.out) (z1B (.cells #[.slice ya yn yc] 35)); have hnews:∀ j u,([.slice ya yn yc]:List Value)[j]? = some u->(W4.alloc (.cells #[.slice ya yn yc] 35)).cell? ((⟨W4.heap.size,0,none⟩:Addr).add j)=some u:=(q3R _ _); clear O4 hb4) | (at_builtin; refine wpList_append_own _ rfl _ _ 32 rfl (w.heap.size+1) 35 i0 (.slice none 0 0) 1 24 Tryz.underlying32 hi hz0 hz1 hz2 rfl (by decide) (.slice qa k qc) k ps rfl hr4 ⟨W4.heap.size,0,none⟩ 1 1 [.slice ya yn yc] rfl rfl hnews (by simp [Value.oneCell']) (by unfold maxLen; omega) (by omega) (by have h1:=hbw.size; have h2:=HB4.out.size; simp; omega) ?_; intro kv' W6 hown6 hgrow6 _));have hr4':(W4.alloc (.cells #[.slice ya yn yc] 35)).ownsRow (w.heap.size+1) 35 1 (.slice qa k qc) zss.length ps:=by rw [HZL.out]; exact hr4
    have hown6':W6.ownsRow (w.heap.size+1) 35 1 kv' (zss.length+1) (ps++[.slice ya yn yc]):=by rw [HZL.out]; exact hown6
    have hpush:=x1G.push hr4' (fun j hj=>let ⟨lo,hi',h⟩:=HOWN.out j hj; ⟨lo,hi',(h.keep' HB4.out).keep' (z1B _)⟩) (HO4.out.keep' (z1B _)) hown6' hgrow6;have hblk:∀ b,(Value.slice qa k qc).ownBlock=some b->w.heap.size+1<=b:=fun b hb=>(hr4.lt b hb).1;have hb6:Below w.heap.size w W6:=(z1A (z1A hbw HB4.out) (z1B _)).grown hgrow6 (by have h1:=hbw.size; have h2:=HB4.out.size; simp; omega) (fun b hb=>by have:=hblk b hb; omega);have hbx6:=(hgrow6.block w.heap.size (by have h1:=(Array.getElem?_eq_some_iff.1 hbox).1; have h2:=HB4.out.size; simp; omega) (fun e=>by have:=hblk _ e.symm; omega)).trans (z1F (z1F hbox HB4.out) (z1B _));obtain ⟨g6,c6,rfl⟩:∃ g6 c6,kv' = .slice (some ⟨g6,0,none⟩) (k+1) c6:=by
     rcases hown6.2 with ⟨_,h0⟩ | ⟨g,cap,cur,hv,_⟩
     ·
      omega
     ·
      exact ⟨g,cap,hv⟩
    refine ⟨⟨k+1,zss++[z],some ⟨g6,0,none⟩,c6,by omega,rfl,rfl,hpush,?_,hb6,hbx6⟩,by simp [intOf]; omega⟩;show _=_;rw [HMT.out,hx];rfl
  ·
   have e:k=p.kids.length:=by omega
   have hltI:(p.kids.length:Int)<=(k:Int):=by omega
   have hzl:zss.length=p.kids.length:=by rw [z2B _ _ _ HMM.out,List.length_take]; omega
   have hall:p.kids.mapM (x1I (j1V ts fW fM fJ fA fP fG) n)=some zss:=by have:=HMM.out; rwa [e,List.take_length] at this
   have HZS:=hidden HO.out.at;have hm:told (x1I (j1V ts fW fM fJ fA fP fG) (n+1) p)=j1V ts fW fM fJ fA fP fG p.nd zss:=by
    rw [z2H,hall];show told (if (j1V ts fW fM fJ fA fP fG p.nd zss).1 then some (j1V ts fW fM fJ fA fP fG p.nd zss).2 else none)=_;cases h1:(j1V ts fW fM fJ fA fP fG p.nd zss).1 with
    | true=>rw [if_pos rfl]; exact Prod.ext h1.symm rfl
    | false=>rw [if_neg (by decide)]; exact Prod.ext h1.symm (HF.out _ _ h1).symm
   obtain ⟨hkk,-,hok⟩:=(z2P okT okC okK p.nd _).1 HFORM.out.2.1;have g0:=cell_at (j:=0) hbox rfl;have HBOX:=hidden hbox;clear HIH HKD hall HFORM HMM HF hz hsz e;by_cases k1:p.nd.k=1
   ·
    have q1:(p.nd.k==1)=true:=by simpa using k1
    have hf:told (x1I (j1V ts fW fM fJ fA fP fG) (n+1) p)=v4L ts p.nd.n:=by rw [hm]; simp [j1V,k1]
    have hn0:0<=p.nd.n/\p.nd.n<3:=by have h:=hok; unfold okS at h; rw [if_pos k1] at h; exact of_decide_eq_true h
    obtain ⟨v,hv⟩:∃ v,v=p.nd.n:=⟨_,rfl⟩;have g1:wr.cell? ⟨w.heap.size,1,none⟩=some (.int .i64 p.nd.n):=cell_at (j:=1) hbox rfl;have HTW:=hidden (HT.out.below (z1A HW0.out hbw));clear k1 hm hkk hok hzl;have hlen:tn=ts.length:=by obtain ⟨_,_,he,_⟩:=HTW.out; simp only [Value.slice.injEq] at he; exact he.2.1
    by_cases hlt1:p.nd.n<(tn:Int)
    ·
     obtain ⟨j,hj⟩:∃ j:Nat,p.nd.n=j:=⟨p.nd.n.toNat,by omega⟩;have hjl:j<ts.length:=by omega
     obtain ⟨-,b0,off,ra,rn,rc,rfl,hbl,hc0,ht0⟩:=x1H HTW.out (j:=j) hjl;have hjt:j<tn:=by omega
     have hjt2:(j:Int)<(tn:Int):=by omega
     obtain ⟨z,hzz⟩:∃ z,z=ts.getD j []:=⟨_,rfl⟩;have htab:v4L ts p.nd.n=(q1G z,if q1G z=true then z else []):=by
      unfold v4L;rw [hj];simp only [Int.toNat_natCast,<-hzz];by_cases hk:q1G z=true
      ·
       rw [if_pos ⟨by omega,by omega,hk⟩,if_pos hk,hk]
      ·
       rw [if_neg (fun h=>hk h.2.2),if_neg hk]; simp at hk; rw [hk]
     have HTOLD:=hidden (hf.trans htab);obtain ⟨hs1,hs2⟩:=HSM.out j hjl;rw [<-hzz] at ht0 hs1 hs2;have HT0:=hidden ht0;rw [hj] at g1;clear htab hf hn0 hlt1 hv hzz ht0 hjl hlen hj;go_wp2_with (first | (go_at_call 62; refine (k3E _ z _ HT0.out.items hs1 hs2).mono ?_; rintro e w2 ⟨v2,rfl,O2,hb2⟩; obtain ⟨ya,yn,yc,rfl⟩:=j1Q O2; have HB2:=hidden (z1A hbw hb2); have HO2:=hidden (O2.wide hbw.size (Nat.le_refl _) (Nat.le_refl _)); clear O2 hb2) | (go_at_call 61; refine (k1H _ z _ _ _ HO2.out HB2.out.size).mono ?_; rintro e w3 ⟨v3,rfl,O3,hb3⟩; obtain ⟨za,zn,zc,rfl⟩:=j1Q O3; have HB3:=hidden (z1A HB2.out hb3); have HO3:=hidden O3; clear O3 hb3));go_ret2;rw [HTOLD.out];exact ⟨_,rfl,HO3.out,HB3.out⟩
    ·
     have hge:(tn:Int)<=p.nd.n:=by omega
     have htab:v4L ts p.nd.n=(false,[]):=if_neg (fun h=>by omega);have HTOLD:=hidden (hf.trans htab);clear htab hf hlt1 hv hlen hn0;go_wp2_with fail;go_ret2;rw [HTOLD.out];exact ⟨_,rfl,(z1T wr).wide hbw.size (Nat.le_refl _) (Nat.le_refl _),z1A hbw (z1B _)⟩
   have q1:(p.nd.k==1)=false:=by simpa using k1
   by_cases k2:p.nd.k=2
   ·
    have q2:(p.nd.k==2)=true:=by simpa using k2
    have HTOLD:Hid (told (x1I (j1V ts fW fM fJ fA fP fG) (n+1) p)=fW p.nd.t (zss.getD 0 [])):=by show _=_; rw [hm]; simp [j1V,k2]
    have hlen:zss.length=1:=by have h:=hkk; rw [k2] at h; have h2:x1Z 2=1:=rfl; omega
    clear k2 hm hkk hok hzl;obtain ⟨hkz,b0,off,ra,rn,rc,rfl,hbl,hc0,ht0⟩:=x1H HZS.out (j:=0) (by omega);rw [Nat.add_zero] at hc0;have HT0:=hidden ht0;have hp0:0<k:=by omega
    have KP:Hid (∀ X:World,Below wr.heap.size wr X->(fun X:World=>X.cell? ⟨b0,off,none⟩=some (.slice ra rn rc)/\X.rangeAt w.heap.size 2 (t10 p.nd.t)/\True) X):=fun X hX=>⟨(hX.cell (p:=⟨b0,off,none⟩) hbl).trans hc0,x1Q (q1T (z1F HBOX.out hX)),trivial⟩;have hlx:(Tryz.prog.info? 26).map (·.size)=some (t10 p.nd.t).length:=by kernel_rfl
    clear hc0 ht0 hlen hkz;go_wp2_with fail;refine wp_region_held_drew (S:=(fun X:World=>X.cell? ⟨b0,off,none⟩=some (.slice ra rn rc)/\X.rangeAt w.heap.size 2 (t10 p.nd.t)/\True)) (by kernel_rfl) ?_ (fun hHeld=> ?_)
    ·
     (try dsimp only); exact KP.out _ (below_drewN (Below.refl _ _) 1)
    refine tk 0 ?_; simp only [ap];refine tk 1 ?_; simp only [ap];refine tk 2 ?_; simp only [ap];refine tk 3 ?_; simp only [ap];refine tl 4 (v:=.agg (t10 p.nd.t).toArray) rfl (yieldsIf_load_mid (by rfl) 26 _ rfl w.heap.size 2 rfl (t10 p.nd.t) _ (fun x h=>h.2.1) Tryz.underlying26 rfl hlx) ?_;simp only [ap];refine r1 5 (fun K hK=> ?_);go_simp;(go_at_call 63; refine (HM.out.1 p.nd.t _ _ _ (z1A HW0.out (z1A hbw (below_drewN (Below.refl _ _) 1))) (HT0.out.below (below_drewN (Below.refl _ _) 1))).mono ?_; rintro e w2 ⟨v2,rfl,O2,hb2⟩; obtain ⟨ya,yn,yc,rfl⟩:=j1Q O2; have HZ:=hidden (z1A (below_drewN (Below.refl _ _) 1) hb2); have HO8:=hidden (O2.wide (z1A hbw (below_drewN (Below.refl _ _) 1)).size (Nat.le_refl _) (Nat.le_refl _)); clear O2 hb2);refine hK.out _ _ ?_ (fun hHeld=> ?_)
    ·
     (try dsimp only); exact KP.out _ HZ.out
    clear hK K;try simp only [ap]
    refine tk 6 ?_; simp only [ap];refine tk 7 ?_; simp only [ap];refine tk 8 ?_; simp only [ap];refine tk 9 ?_; simp only [ap];refine dn ?_;have HE:=hidden (z1A hbw HZ.out);clear hHeld KP;go_wp2_with fail;go_ret2;rw [HTOLD.out];exact ⟨_,rfl,HO8.out,HE.out⟩
   have q2:(p.nd.k==2)=false:=by simpa using k2
   by_cases k3:p.nd.k=3
   ·
    have q3:(p.nd.k==3)=true:=by simpa using k3
    have HTOLD:Hid (told (x1I (j1V ts fW fM fJ fA fP fG) (n+1) p)=fM p.nd.cs (zss.getD 0 [])):=by show _=_; rw [hm]; simp [j1V,k3]
    have hlen:zss.length=1:=by have h:=hkk; rw [k3] at h; have h2:x1Z 3=1:=rfl; omega
    clear k3 hm hkk hok hzl;obtain ⟨hkz,b0,off,ra,rn,rc,rfl,hbl,hc0,ht0⟩:=x1H HZS.out (j:=0) (by omega);rw [Nat.add_zero] at hc0;have HT0:=hidden ht0;have hp0:0<k:=by omega
    have KP:Hid (∀ X:World,Below wr.heap.size wr X->(fun X:World=>X.cell? ⟨b0,off,none⟩=some (.slice ra rn rc)/\X.cell? ⟨w.heap.size,12,none⟩=some (.slice ca p.nd.cs.length cc)/\True) X):=fun X hX=>⟨(hX.cell (p:=⟨b0,off,none⟩) hbl).trans hc0,cell_at (z1F HBOX.out hX) rfl,trivial⟩;clear hc0 ht0 hlen hkz;go_wp2_with fail;refine wp_region_held_drew (S:=(fun X:World=>X.cell? ⟨b0,off,none⟩=some (.slice ra rn rc)/\X.cell? ⟨w.heap.size,12,none⟩=some (.slice ca p.nd.cs.length cc)/\True)) (by kernel_rfl) ?_ (fun hHeld=> ?_)
    ·
     (try dsimp only); exact KP.out _ (below_drewN (Below.refl _ _) 1)
    refine tk 0 ?_; simp only [ap];refine tk 1 ?_; simp only [ap];refine tk 2 ?_; simp only [ap];refine tk 3 ?_; simp only [ap];refine tk 4 ?_; simp only [ap];refine r1 5 (fun K hK=> ?_);go_simp;(go_at_call 64; refine (HM.out.2.1 p.nd.cs _ _ _ _ (z1A HW0.out (z1A hbw (below_drewN (Below.refl _ _) 1))) (HT0.out.below (below_drewN (Below.refl _ _) 1)) (HCS.out.below (z1A hbw (below_drewN (Below.refl _ _) 1))) hlc).mono ?_; rintro e w2 ⟨v2,rfl,O2,hb2⟩; obtain ⟨ya,yn,yc,rfl⟩:=j1Q O2; have HZ:=hidden (z1A (below_drewN (Below.refl _ _) 1) hb2); have HO8:=hidden (O2.wide (z1A hbw (below_drewN (Below.refl _ _) 1)).size (Nat.le_refl _) (Nat.le_refl _)); clear O2 hb2);refine hK.out _ _ ?_ (fun hHeld=> ?_)
    ·
     (try dsimp only); exact KP.out _ HZ.out
    clear hK K;try simp only [ap]
    refine tk 6 ?_; simp only [ap];refine tk 7 ?_; simp only [ap];refine tk 8 ?_; simp only [ap];refine tk 9 ?_; simp only [ap];refine dn ?_;have HE:=hidden (z1A hbw HZ.out);clear hHeld KP;go_wp2_with fail;go_ret2;rw [HTOLD.out];exact ⟨_,rfl,HO8.out,HE.out⟩
   have q3:(p.nd.k==3)=false:=by simpa using k3
   by_cases k4:p.nd.k=4
   ·
    have q4:(p.nd.k==4)=true:=by simpa using k4
    have HTOLD:Hid (told (x1I (j1V ts fW fM fJ fA fP fG) (n+1) p)=fJ (zss.getD 0 []) (zss.getD 1 []) p.nd.a p.nd.b):=by show _=_; rw [hm]; simp [j1V,k4]
    have hlen:zss.length=2:=by have h:=hkk; rw [k4] at h; have h2:x1Z 4=2:=rfl; omega
    clear k4 hm hkk hok hzl;obtain ⟨hkz,b0,off,ra,rn,rc,rfl,hbl,hc0,ht0⟩:=x1H HZS.out (j:=0) (by omega);rw [Nat.add_zero] at hc0;have HT0:=hidden ht0;have hp0:0<k:=by omega
    obtain ⟨-,b2,off2,rb,rm,rd,he2,hbl2,hc1,ht1⟩:=x1H HZS.out (j:=1) (by omega);simp only [Option.some.injEq,Addr.mk.injEq,and_true] at he2;obtain ⟨rfl,rfl⟩:=he2;have HT1:=hidden ht1;have hp1:1<k:=by omega
    have hp2:(1:Int)<(k:Int):=by omega
    have KP:Hid (∀ X:World,Below wr.heap.size wr X->(fun X:World=>X.cell? ⟨b0,off,none⟩=some (.slice ra rn rc)/\X.cell? ⟨b0,off+1,none⟩=some (.slice rb rm rd)/\X.cell? ⟨w.heap.size,13,none⟩=some (.int .i64 p.nd.a)/\X.cell? ⟨w.heap.size,14,none⟩=some (.int .i64 p.nd.b)/\True) X):=fun X hX=>⟨(hX.cell (p:=⟨b0,off,none⟩) hbl).trans hc0,(hX.cell (p:=⟨b0,off+1,none⟩) hbl).trans hc1,cell_at (z1F HBOX.out hX) rfl,cell_at (z1F HBOX.out hX) rfl,trivial⟩;clear hc0 ht0 hlen hkz hc1 ht1 hbl2;go_wp2_with fail;refine wp_region_held_drew (S:=(fun X:World=>X.cell? ⟨b0,off,none⟩=some (.slice ra rn rc)/\X.cell? ⟨b0,off+1,none⟩=some (.slice rb rm rd)/\X.cell? ⟨w.heap.size,13,none⟩=some (.int .i64 p.nd.a)/\X.cell? ⟨w.heap.size,14,none⟩=some (.int .i64 p.nd.b)/\True)) (by kernel_rfl) ?_ (fun hHeld=> ?_)
    ·
     (try dsimp only); exact KP.out _ (below_drewN (Below.refl _ _) 1)
    refine tk 0 ?_; simp only [ap];refine tk 1 ?_; simp only [ap];refine tk 2 ?_; simp only [ap];refine tk 3 ?_; simp only [ap];refine tk 4 ?_; simp only [ap];refine tk 5 ?_; simp only [ap];refine tk 6 ?_; simp only [ap];refine tk 7 ?_; simp only [ap];refine tk 8 ?_; simp only [ap];refine tk 9 ?_; simp only [ap];refine r1 10 (fun K hK=> ?_);go_simp;(go_at_call 65; refine (HM.out.2.2.1 _ _ _ _ p.nd.a p.nd.b _ (z1A HW0.out (z1A hbw (below_drewN (Below.refl _ _) 1))) (HT0.out.below (below_drewN (Below.refl _ _) 1)) (HT1.out.below (below_drewN (Below.refl _ _) 1))).mono ?_; rintro e w2 ⟨v2,rfl,O2,hb2⟩; obtain ⟨ya,yn,yc,rfl⟩:=j1Q O2; have HZ:=hidden (z1A (below_drewN (Below.refl _ _) 1) hb2); have HO8:=hidden (O2.wide (z1A hbw (below_drewN (Below.refl _ _) 1)).size (Nat.le_refl _) (Nat.le_refl _)); clear O2 hb2);refine hK.out _ _ ?_ (fun hHeld=> ?_)
    ·
     (try dsimp only); exact KP.out _ HZ.out
    clear hK K;try simp only [ap]
    refine tk 11 ?_; simp only [ap];refine tk 12 ?_; simp only [ap];refine tk 13 ?_; simp only [ap];refine tk 14 ?_; simp only [ap];refine dn ?_;have HE:=hidden (z1A hbw HZ.out);clear hHeld KP;go_wp2_with fail;go_ret2;rw [HTOLD.out];exact ⟨_,rfl,HO8.out,HE.out⟩
   have q4:(p.nd.k==4)=false:=by simpa using k4
   by_cases k5:p.nd.k=5
   ·
    have q5:(p.nd.k==5)=true:=by simpa using k5
    have HTOLD:Hid (told (x1I (j1V ts fW fM fJ fA fP fG) (n+1) p)=fA (zss.getD 0 []) (zss.getD 1 [])):=by show _=_; rw [hm]; simp [j1V,k5]
    have hlen:zss.length=2:=by have h:=hkk; rw [k5] at h; have h2:x1Z 5=2:=rfl; omega
    clear k5 hm hkk hok hzl;obtain ⟨hkz,b0,off,ra,rn,rc,rfl,hbl,hc0,ht0⟩:=x1H HZS.out (j:=0) (by omega);rw [Nat.add_zero] at hc0;have HT0:=hidden ht0;have hp0:0<k:=by omega
    obtain ⟨-,b2,off2,rb,rm,rd,he2,hbl2,hc1,ht1⟩:=x1H HZS.out (j:=1) (by omega);simp only [Option.some.injEq,Addr.mk.injEq,and_true] at he2;obtain ⟨rfl,rfl⟩:=he2;have HT1:=hidden ht1;have hp1:1<k:=by omega
    have hp2:(1:Int)<(k:Int):=by omega
    have KP:Hid (∀ X:World,Below wr.heap.size wr X->(fun X:World=>X.cell? ⟨b0,off,none⟩=some (.slice ra rn rc)/\X.cell? ⟨b0,off+1,none⟩=some (.slice rb rm rd)/\True) X):=fun X hX=>⟨(hX.cell (p:=⟨b0,off,none⟩) hbl).trans hc0,(hX.cell (p:=⟨b0,off+1,none⟩) hbl).trans hc1,trivial⟩;clear hc0 ht0 hlen hkz hc1 ht1 hbl2;go_wp2_with fail;refine wp_region_held_drew (S:=(fun X:World=>X.cell? ⟨b0,off,none⟩=some (.slice ra rn rc)/\X.cell? ⟨b0,off+1,none⟩=some (.slice rb rm rd)/\True)) (by kernel_rfl) ?_ (fun hHeld=> ?_)
    ·
     (try dsimp only); exact KP.out _ (below_drewN (Below.refl _ _) 1)
    refine tk 0 ?_; simp only [ap];refine tk 1 ?_; simp only [ap];refine tk 2 ?_; simp only [ap];refine tk 3 ?_; simp only [ap];refine tk 4 ?_; simp only [ap];refine tk 5 ?_; simp only [ap];refine r1 6 (fun K hK=> ?_);go_simp;(go_at_call 66; refine (HM.out.2.2.2.1 _ _ _ _ _ (z1A HW0.out (z1A hbw (below_drewN (Below.refl _ _) 1))) (HT0.out.below (below_drewN (Below.refl _ _) 1)) (HT1.out.below (below_drewN (Below.refl _ _) 1))).mono ?_; rintro e w2 ⟨v2,rfl,O2,hb2⟩; obtain ⟨ya,yn,yc,rfl⟩:=j1Q O2; have HZ:=hidden (z1A (below_drewN (Below.refl _ _) 1) hb2); have HO8:=hidden (O2.wide (z1A hbw (below_drewN (Below.refl _ _) 1)).size (Nat.le_refl _) (Nat.le_refl _)); clear O2 hb2);refine hK.out _ _ ?_ (fun hHeld=> ?_)
    ·
     (try dsimp only); exact KP.out _ HZ.out
    clear hK K;try simp only [ap]
    refine tk 7 ?_; simp only [ap];refine tk 8 ?_; simp only [ap];refine tk 9 ?_; simp only [ap];refine tk 10 ?_; simp only [ap];refine dn ?_;have HE:=hidden (z1A hbw HZ.out);clear hHeld KP;go_wp2_with fail;go_ret2;rw [HTOLD.out];exact ⟨_,rfl,HO8.out,HE.out⟩
   have q5:(p.nd.k==5)=false:=by simpa using k5
   by_cases k6:p.nd.k=6
   ·
    have q6:(p.nd.k==6)=true:=by simpa using k6
    have HTOLD:Hid (told (x1I (j1V ts fW fM fJ fA fP fG) (n+1) p)=(true,fP (zss.getD 0 []))):=by show _=_; rw [hm]; simp [j1V,k6]
    have hlen:zss.length=1:=by have h:=hkk; rw [k6] at h; have h2:x1Z 6=1:=rfl; omega
    clear k6 hm hkk hok hzl;obtain ⟨hkz,b0,off,ra,rn,rc,rfl,hbl,hc0,ht0⟩:=x1H HZS.out (j:=0) (by omega);rw [Nat.add_zero] at hc0;have HT0:=hidden ht0;have hp0:0<k:=by omega
    have KP:Hid (∀ X:World,Below wr.heap.size wr X->(fun X:World=>X.cell? ⟨b0,off,none⟩=some (.slice ra rn rc)/\True) X):=fun X hX=>⟨(hX.cell (p:=⟨b0,off,none⟩) hbl).trans hc0,trivial⟩;clear hc0 ht0 hlen hkz;obtain ⟨gk,-⟩:=KP.out _ (Below.refl _ _);go_wp2_with (go_at_call 67; refine (HM.out.2.2.2.2.1 _ _ _ (z1A HW0.out (z1A hbw (Below.refl _ _))) (HT0.out.below (Below.refl _ _))).mono ?_; rintro e w2 ⟨v2,rfl,O2,hb2⟩; obtain ⟨ya,yn,yc,rfl⟩:=j1Q O2; have HZ:=hidden (z1A (Below.refl _ _) hb2); have HO8:=hidden (O2.wide (z1A hbw (Below.refl _ _)).size (Nat.le_refl _) (Nat.le_refl _)); clear O2 hb2);have HE:=hidden (z1A hbw HZ.out);clear KP;go_ret2;rw [HTOLD.out];exact ⟨_,rfl,HO8.out,HE.out⟩
   have q6:(p.nd.k==6)=false:=by simpa using k6
   by_cases k7:p.nd.k=7
   ·
    have q7:(p.nd.k==7)=true:=by simpa using k7
    have HTOLD:Hid (told (x1I (j1V ts fW fM fJ fA fP fG) (n+1) p)=fG (zss.getD 0 []) p.nd.ks p.nd.g p.nd.c):=by show _=_; rw [hm]; simp [j1V,k7]
    have hlen:zss.length=1:=by have h:=hkk; rw [k7] at h; have h2:x1Z 7=1:=rfl; omega
    clear k7 hm hkk hok hzl;obtain ⟨hkz,b0,off,ra,rn,rc,rfl,hbl,hc0,ht0⟩:=x1H HZS.out (j:=0) (by omega);rw [Nat.add_zero] at hc0;have HT0:=hidden ht0;have hp0:0<k:=by omega
    have KP:Hid (∀ X:World,Below wr.heap.size wr X->(fun X:World=>X.cell? ⟨b0,off,none⟩=some (.slice ra rn rc)/\X.cell? ⟨w.heap.size,15,none⟩=some (.slice ka p.nd.ks.length kc)/\X.cell? ⟨w.heap.size,16,none⟩=some (.int .i64 p.nd.g)/\X.cell? ⟨w.heap.size,17,none⟩=some (.int .i64 p.nd.c)/\True) X):=fun X hX=>⟨(hX.cell (p:=⟨b0,off,none⟩) hbl).trans hc0,cell_at (z1F HBOX.out hX) rfl,cell_at (z1F HBOX.out hX) rfl,cell_at (z1F HBOX.out hX) rfl,trivial⟩;clear hc0 ht0 hlen hkz;go_wp2_with fail;refine wp_region_held_drew (S:=(fun X:World=>X.cell? ⟨b0,off,none⟩=some (.slice ra rn rc)/\X.cell? ⟨w.heap.size,15,none⟩=some (.slice ka p.nd.ks.length kc)/\X.cell? ⟨w.heap.size,16,none⟩=some (.int .i64 p.nd.g)/\X.cell? ⟨w.heap.size,17,none⟩=some (.int .i64 p.nd.c)/\True)) (by kernel_rfl) ?_ (fun hHeld=> ?_)
    ·
     (try dsimp only); exact KP.out _ (below_drewN (Below.refl _ _) 1)
    refine tk 0 ?_; simp only [ap];refine tk 1 ?_; simp only [ap];refine tk 2 ?_; simp only [ap];refine tk 3 ?_; simp only [ap];refine tk 4 ?_; simp only [ap];refine tk 5 ?_; simp only [ap];refine tk 6 ?_; simp only [ap];refine tk 7 ?_; simp only [ap];refine tk 8 ?_; simp only [ap];refine r1 9 (fun K hK=> ?_);go_simp;(go_at_call 68; refine (HM.out.2.2.2.2.2 p.nd.ks _ _ _ p.nd.g p.nd.c _ (z1A HW0.out (z1A hbw (below_drewN (Below.refl _ _) 1))) (HT0.out.below (below_drewN (Below.refl _ _) 1)) (HKS.out.below (z1A hbw (below_drewN (Below.refl _ _) 1))) hlk).mono ?_; rintro e w2 ⟨v2,rfl,O2,hb2⟩; obtain ⟨ya,yn,yc,rfl⟩:=j1Q O2; have HZ:=hidden (z1A (below_drewN (Below.refl _ _) 1) hb2); have HO8:=hidden (O2.wide (z1A hbw (below_drewN (Below.refl _ _) 1)).size (Nat.le_refl _) (Nat.le_refl _)); clear O2 hb2);refine hK.out _ _ ?_ (fun hHeld=> ?_)
    ·
     (try dsimp only); exact KP.out _ HZ.out
    clear hK K;try simp only [ap]
    refine tk 10 ?_; simp only [ap];refine tk 11 ?_; simp only [ap];refine tk 12 ?_; simp only [ap];refine tk 13 ?_; simp only [ap];refine dn ?_;have HE:=hidden (z1A hbw HZ.out);clear hHeld KP;go_wp2_with fail;go_ret2;rw [HTOLD.out];exact ⟨_,rfl,HO8.out,HE.out⟩
   have hno:x1Z p.nd.k = -1:=by simp [x1Z,k1,k2,k3,k4,k5,k6,k7]
   omega
theorem x5U (w0:World) (ta:Option Addr) (tn tc:Nat) (ts:List (List It)) (ht:ZssAt w0 (.slice ta tn tc) ts) (hsm:v2W ts) (fW:Tst->List It->Told) (fM:List Cel->List It->Told) (fJ:List It->List It->Int->Int->Told) (fA:List It->List It->Told) (fP:List It->List It) (fG:List It->List Int->Int->Int->Told) (okT:Tst->Bool) (okC:Cel->Bool) (okK:List Int->Bool) (hF:∀ d ks,(j1V ts fW fM fJ fA fP fG d ks).1=false->(j1V ts fW fM fJ fA fP fG d ks).2=[]) (hM:q3W w0 fW fM fJ fA fP fG):∀ n,z5L w0 ta tn tc ts fW fM fJ fA fP fG okT okC okK n:=by
 intro n;induction n with
 | zero=>exact j3R w0 ta tn tc ts ht hsm fW fM fJ fA fP fG okT okC okK hF hM 0 (fun m h=>by cases h)
 | succ n ih=>exact j3R w0 ta tn tc ts ht hsm fW fM fJ fA fP fG okT okC okK hF hM (n+1) (fun m h=>by cases h; exact ih)
theorem j4B (n:Nat) (p:Pl (n+1)) (ca ka da:Option Addr) (cc kc dc:Nat) (w:World) (hp:q1X (NodeAt n) w p.nd p.kids (.slice ca p.nd.cs.length cc) (.slice ka p.nd.ks.length kc) (.slice da p.kids.length dc)) (hz:Pl.sz (n+1) p<=1048576) (okT:Tst->Bool) (okC:Cel->Bool) (okK:List Int->Bool) (hO:x3R w okT okC okK)
  (ta:Option Addr) (tn tc:Nat) (ts:List (List It)) (ht:ZssAt w (.slice ta tn tc) ts) (hsm:v2W ts) (fW:Tst->List It->Told) (fM:List Cel->List It->Told) (fJ:List It->List It->Int->Int->Told) (fA:List It->List It->Told) (fP:List It->List It) (fG:List It->List Int->Int->Int->Told) (hM:q3W w fW fM fJ fA fP fG) (hF:∀ d ks,(j1V ts fW fM fJ fA fP fG d ks).1=false->(j1V ts fW fM fJ fA fP fG d ks).2=[]) :
  Calls Tryz.prog 6 #[.agg (p19 p ca cc ka kc da dc).toArray,.slice ta tn tc] w (v1A w (j3M okT okC okK (j1V ts fW fM fJ fA fP fG) tn (n+1) p)):=by
 have hla:(Tryz.prog.info? 31).map (·.size)=some (p19 p ca cc ka kc da dc).length:=by kernel_rfl
 have HB:Hid (Below w.heap.size w (w.alloc (.cells (p19 p ca cc ka kc da dc).toArray 31))):=z1B _;have HA:Hid ((w.alloc (.cells (p19 p ca cc ka kc da dc).toArray 31)).heap[w.heap.size]? = some (.cells (p19 p ca cc ka kc da dc).toArray 31)):=alloc_at _ _;have HR:Hid ((w.alloc (.cells (p19 p ca cc ka kc da dc).toArray 31)).rangeAt w.heap.size 0 (p19 p ca cc ka kc da dc)):=q1T HA.out;have HFIT:=hidden (q6R w okT okC okK hO n p ca ka da cc kc dc _ HB.out (hp.below HB.out fun b o x h=>NodeAt.below n h HB.out) hz);have HMEAN:Hid (∀ w',Below w.heap.size w w'->q3V okT okC okK (n+1) p=true->Calls Tryz.prog 24 #[.agg (p19 p ca cc ka kc da dc).toArray,.slice ta tn tc] w' (v1A w' (told (x1I (j1V ts fW fM fJ fA fP fG) (n+1) p)))):=fun w' hb hc=>
  x5U w ta tn tc ts ht hsm fW fM fJ fA fP fG okT okC okK hF hM n p ca ka da cc kc dc w' hb (hp.below hb fun b o x h=>NodeAt.below n h hb) hz ⟨6,by simp only [q3V,Bool.and_eq_true] at hc; exact hc.1⟩
 clear hp hz hO ht hM hF hsm;cases hc:q3V okT okC okK (n+1) p with
 | true=>
  rw [hc] at HFIT;by_cases h3:tn<=3
  ·
   have hT:j3M okT okC okK (j1V ts fW fM fJ fA fP fG) tn (n+1) p=told (x1I (j1V ts fW fM fJ fA fP fG) (n+1) p):=if_pos ⟨hc,h3⟩;rw [hT];have HC:=hidden hc;have h3':(tn:Int)<=3:=by omega
   clear hT hc;go_enter Tryz.func6,Tryz.ntmps6;go_wp2_with (first | refine wpList_load_mid rfl 31 _ rfl w.heap.size 0 rfl _ _ HR.out Tryz.underlying31 rfl hla ?_ | refine wpList_load_mid rfl 31 _ rfl w.heap.size 0 rfl _ _ HR1.out Tryz.underlying31 rfl hla ?_ | (go_at_call 23; refine HFIT.out.mono ?_; rintro e w1 ⟨rfl,hb1⟩; have HB1:=hidden (z1A HB.out hb1); have HR1:=hidden (q1T (z1F HA.out hb1)); clear hb1) | (go_at_call 24; refine (HMEAN.out _ HB1.out HC.out).mono ?_; rintro e w2 ⟨v2,rfl,O2,hb2⟩; obtain ⟨qa,qn,qc,rfl⟩:=j1Q O2; have HO2:=hidden (O2.wide HB1.out.size (Nat.le_refl _) (Nat.le_refl _)); have HB2:=hidden (z1A HB1.out hb2); clear O2 hb2));go_ret2;exact ⟨_,rfl,HO2.out,HB2.out⟩
  ·
   have hT:j3M okT okC okK (j1V ts fW fM fJ fA fP fG) tn (n+1) p=(false,[]):=if_neg (fun h=>h3 h.2);rw [hT];have h3':3<(tn:Int):=by omega
   clear hT hc HMEAN;go_enter Tryz.func6,Tryz.ntmps6;go_wp2_with (first | refine wpList_load_mid rfl 31 _ rfl w.heap.size 0 rfl _ _ HR.out Tryz.underlying31 rfl hla ?_ | (go_at_call 23; refine HFIT.out.mono ?_; rintro e w1 ⟨rfl,hb1⟩; have HB1:=hidden (z1A HB.out hb1); have HR1:=hidden (q1T (z1F HA.out hb1)); clear hb1));go_ret2;exact ⟨_,rfl,(z1T _).wide HB1.out.size (Nat.le_refl _) (Nat.le_refl _),z1A HB1.out (z1B _)⟩
 | false=>
  rw [hc] at HFIT;have hT:j3M okT okC okK (j1V ts fW fM fJ fA fP fG) tn (n+1) p=(false,[]):=if_neg (fun h=>by rw [hc] at h; cases h.1);rw [hT];clear hT hc HMEAN;go_enter Tryz.func6,Tryz.ntmps6;go_wp2_with (first | refine wpList_load_mid rfl 31 _ rfl w.heap.size 0 rfl _ _ HR.out Tryz.underlying31 rfl hla ?_ | (go_at_call 23; refine HFIT.out.mono ?_; rintro e w1 ⟨rfl,hb1⟩; have HB1:=hidden (z1A HB.out hb1); have HR1:=hidden (q1T (z1F HA.out hb1)); clear hb1));go_ret2;exact ⟨_,rfl,(z1T _).wide HB1.out.size (Nat.le_refl _) (Nat.le_refl _),z1A HB1.out (z1B _)⟩
end Go.Proofs.YtmjaepdplbgohaaGreatDoor.Kd
