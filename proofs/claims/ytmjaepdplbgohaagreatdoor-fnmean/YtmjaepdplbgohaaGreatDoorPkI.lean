/- Part of the proof of laws.FnMean: WhereMath, WhereImpl, WhereSpec, MapRow, CellsOk, MapMem, ReadMath, GatherMath, JoinMath, KeysMath, JoinHave, Keys, GroupMath, TotalsG. -/
import Derived.Test.YtmjaepdplbgohaaGreatDoorPkB
import Derived.Test.YtmjaepdplbgohaaGreatDoorPkA
import Derived.Test.YtmjaepdplbgohaaGreatDoorPkG
import Derived.Test.YtmjaepdplbgohaaGreatDoorPkC
import Derived.Test.YtmjaepdplbgohaaGreatDoorPkF
import Derived.Maps.Own
import Derived.Maps.Views
import Derived.Maps.Keyed
set_option maxRecDepth 100000
set_option maxHeartbeats 16000000
set_option linter.unusedVariables false
set_option linter.unusedSimpArgs false
namespace Go.Proofs.YtmjaepdplbgohaaGreatDoor
def j1N (t:Tst) (zs:List It):List It:=zs.filter fun p=>t.valB p.1
def x1W (t:Tst) (zs:List It):Bool:=q1G zs&&zs.all fun p=>t.toldB p.1
def q1S (t:Tst) (zs:List It):List It:=if x1W t zs then j1N t zs else []
theorem v3T (t:Tst) (zs:List It):(j1N t zs).length<=zs.length:=List.length_filter_le _ _
theorem v2N {t:Tst} {zs:List It} {k:Nat} (hk:k<zs.length):j1N t (zs.take (k+1))=j1N t (zs.take k)++(if t.valB (zs.getD k ([],0)).1 then [((zs.getD k ([],0)).1,(zs.getD k ([],0)).2)] else []):=by
 unfold j1N;rw [List.take_succ_eq_append_getElem hk,List.filter_append];congr 1;simp [List.getD,hk];split <;> simp_all
theorem q4P {t:Tst} {zs:List It} {k:Nat} (hk:k<zs.length) (h:(zs.take k).all (fun p=>t.toldB p.1)=true) (hx:t.toldB (zs.getD k ([],0)).1=true):(zs.take (k+1)).all (fun p=>t.toldB p.1)=true:=by
 rw [List.take_succ_eq_append_getElem hk,List.all_append,h];simp [List.getD,hk] at hx ⊢;exact hx
theorem z5S {t:Tst} {zs:List It} {k:Nat} (hk:k<zs.length) (hx:t.toldB (zs.getD k ([],0)).1=false):x1W t zs=false:=by
 unfold x1W;have:(zs.all fun p=>t.toldB p.1)=false:=by
  rw [List.all_eq_false];refine ⟨zs[k],by simp,?_⟩;simp [List.getD,hk] at hx;simp [hx]
 rw [this,Bool.and_false]
theorem z6J {zs:List It} {r:List Int} {y:Int} (h:∀ p∈zs,ordL p.1 r = -1) (hy:y≠0):putZ zs r y=zs++[(r,y)]:=by
 rw [q5F (k:=zs.length) hy (fun j hj=>h _ (by simp [List.getD,hj])) (Nat.le_refl _) (fun hc=>by omega)];simp
theorem k5S {zs:List It} (h:Srt zs) {k:Nat} (hk:k<zs.length):∀ p∈zs.take k,ordL p.1 (zs.getD k ([],0)).1 = -1:=by
 intro p hp;obtain ⟨j,hj,rfl⟩:=List.mem_iff_getElem.1 hp;rw [List.length_take] at hj;rw [List.getElem_take];have:=List.pairwise_iff_getElem.1 h j k (by omega) hk (by omega);simpa [List.getD,hk] using this
theorem k5I {t:Tst} {zs:List It} (hok:q1G zs=true) {k:Nat} (hk:k<zs.length) (hx:t.valB (zs.getD k ([],0)).1=true):putZ (j1N t (zs.take k)) (zs.getD k ([],0)).1 (zs.getD k ([],0)).2=j1N t (zs.take (k+1)):=by
 rw [v2N hk,if_pos hx];refine z6J (fun p hp=>k5S (q3Z hok) hk p (List.mem_filter.1 hp).1) (z5R hok _ ?_);simp [List.getD,hk]
theorem j5P {t:Tst} {zs:List It} {p:It} (h:p∈j1N t zs):p∈zs:=(List.mem_filter.1 h).1
end Go.Proofs.YtmjaepdplbgohaaGreatDoor
namespace Go.Proofs.YtmjaepdplbgohaaGreatDoor
open Go.RowKit
theorem x6D {w:World} {g:Nat} {t:Tst} (h:q1K w g t):(w.cell? ⟨g,0,none⟩=some (.int .i64 t.k)/\w.cell? ⟨g,1,none⟩=some (.bool t.no)/\w.cell? ⟨g,2,none⟩=some (.int .i64 t.l.k)/\w.cell? ⟨g,3,none⟩=some (.int .i64 t.l.a)/\w.cell? ⟨g,4,none⟩=some (.int .i64 t.l.b))/\(w.cell? ⟨g,5,none⟩=some (.int .i64 t.l.n)/\w.cell? ⟨g,6,none⟩=some (.int .i64 t.r.k)/\w.cell? ⟨g,7,none⟩=some (.int .i64 t.r.a)/\w.cell? ⟨g,8,none⟩=some (.int .i64 t.r.b)/\w.cell? ⟨g,9,none⟩=some (.int .i64 t.r.n)):=by
 obtain ⟨_,c0,c1,⟨c2,c3,c4,c5⟩,c6,c7,c8,c9⟩:=h;exact ⟨⟨c0,c1,c2,c3,c4⟩,c5,c6,c7,c8,c9⟩
theorem z4Y (v:Value) (zs:List It) (t:Tst) (w:World) (p:Addr) (hs:v1J w p) (h:z1I w v zs) :
  Calls Tryz.prog 8 #[v,.agg (t10 t).toArray] w fun e w'=> ∃ v',e = .returned (.tuple #[v',.bool (x1W t zs)])/\z1V w' w.heap.size w'.heap.size v' (q1S t zs)/\Below w.heap.size w w':=by
 obtain ⟨i0,hi,hz0,hz1,hz2⟩:=info_parts infoItem;cases hok:q1G zs with
 | false=>
  have e0:x1W t zs=false:=by simp [x1W,hok]
  have e1:q1S t zs=[]:=by simp [q1S,e0]
  rw [e0,e1];go_enter Tryz.func8,Tryz.ntmps8;go_wp2_with fail;refine (z1O v zs _ (h.below (z1B _))).mono ?_;rw [hok];rintro e w1 ⟨rfl,hb1⟩;have HK:Hid (Below w.heap.size w w1):=z1A (z1B _) hb1;clear h hb1 e0 e1;go_wp2;go_ret2;exact ⟨_,rfl,q1D _ _,HK.out⟩
 | true=>
  have h100:=v1B hok;have hrow:∀ k,k<zs.length->(zs.getD k ([],0)).1.length<=8796093022208:=fun k hk=>by have:=k1Z (j1S hok hk).1; omega
  have HOK:Hid (q1G zs=true):=hok;go_enter Tryz.func8,Tryz.ntmps8;go_wp2_with fail;refine (z1O v zs _ (h.below (z1B _))).mono ?_;rw [hok];rintro e w1 ⟨rfl,hb1⟩;have HB1:Hid (Below w.heap.size w w1):=z1A (z1B _) hb1;have X1:Hid (q1K w1 w.heap.size t):=(q1K.start w t _).below hb1;have HS:Hid (v1J w1 p):=hs.below HB1.out;have h1:=h.below HB1.out;clear h hb1 hok hs;rcases h1.cases with ⟨a,cap,rfl,rfl⟩ | ⟨b,off,cap,hpos,hlim,rfl,hbw,hc⟩
  ·
   clear h1 hrow;go_wp2;refine wp_loop_rounds 1 ?_;rw [rounds_succ];go_wp2;go_ret2;refine ⟨_,rfl,?_,HB1.out⟩;have e1:q1S t []=[]:=by simp [q1S,j1N]
   rw [e1];exact q1D _ _
  ·
   clear h1;have hsz1:=HB1.out.size;have hg1:w.heap.size<w1.heap.size:=X1.out.1;obtain ⟨n,hn⟩:∃ n,n=zs.length:=⟨_,rfl⟩;have HN:Hid (n=zs.length):=hn;rw [<-hn] at hpos hlim hc hrow h100 ⊢;clear hn;go_wp2;go_loopw [6,16] (fun s i wr=> ∃ (k:Nat),k<=n/\i = .int .i64 k/\Hid (z1V wr w1.heap.size wr.heap.size s (j1N t (zs.take k)))/\Hid (Below w1.heap.size w1 wr)/\Hid ((zs.take k).all (fun p=>t.toldB p.1)=true)) (fun _ i _=>n - (intOf i).toNat)
   case atStart=>exact ⟨0,Nat.zero_le _,rfl,q1D _ _,Below.refl _ _,by show _=true; simp⟩
   case round=>
    obtain ⟨k,hk,rfl,HZ,HW,HA⟩:=hrel;by_cases hlt:k<n
    ·
     have HB:=HW.out;have hlt':k<zs.length:=by rw [<-HN.out]; exact hlt
     obtain ⟨rv,hrv0,hwt0,hix0⟩:=hc k hlt;have hrv:=(HB.cell (p:=⟨b,off+k*2,none⟩) hbw).trans hrv0;have hwt:=(HB.cell (p:=⟨b,off+k*2+1,none⟩) hbw).trans hwt0;have hix:=hix0.below HB;have hbr:b<wr.heap.size:=Nat.lt_of_lt_of_le hbw HB.size;have hgr:w.heap.size<wr.heap.size:=Nat.lt_of_lt_of_le hg1 HB.size;have hxl:=hrow k hlt;have hpl:(j1N t (zs.take k)).length<=100:=by have:=v3T t (zs.take k); rw [List.length_take] at this; omega
     have HT:Hid _:=v2N (t:=t) hlt';have hno:=z5S (t:=t) hlt';have hyes:=q4P hlt' HA.out;obtain ⟨⟨c0,c1,c2,c3,c4⟩,c5,c6,c7,c8,c9⟩:=x6D (X1.out.below HB);clear hrv0 hwt0 hix0 hc hrow;obtain ⟨q,HP⟩:∃ q,Hid (q=zs.getD k ([],0)):=⟨_,rfl⟩;rw [<-HP.out] at hix hwt hxl HT hno hyes;obtain ⟨x,y⟩:=q;obtain ⟨ra,rn,rc,rfl⟩:=hix.shape;simp only at hix hwt hxl HT hno hyes;go_wp2_with fail;refine (v3H t _ x _ p ((HS.out.below HB).below (z1C _)) (hix.alloc _)).mono ?_;rintro e w2 ⟨rfl,hb2⟩;clear c0 c1 c2 c3 c4 c5 c6 c7 c8 c9 hrv hwt;have hk2:Below wr.heap.size wr w2:=z1D (z1C _) hb2;have hw2:w2.heap[wr.heap.size]? = some (.cells #[.slice ra rn rc,.int .i64 y] 47):=z1F (alloc_at _ _) hb2;have d0:w2.cell? ⟨wr.heap.size,0,none⟩=some (.slice ra rn rc):=by simp [World.cell?,hw2]
     have d1:w2.cell? ⟨wr.heap.size,1,none⟩=some (.int .i64 y):=by simp [World.cell?,hw2]
     have hbr2:wr.heap.size<w2.heap.size:=(Array.getElem?_eq_some_iff.1 hw2).1;have hix2:z1E w2 (.slice ra rn rc) x:=hix.below hk2;clear hb2 hw2 hix;cases htold:t.toldB x with
     | false=>
      have HE0:Hid _:=hno htold;have HE1:Hid (q1S t zs=[]):=by show _=_; simp [q1S,HE0.out]
      have HK:Hid (Below w.heap.size w w2):=HB1.out.trans ((HB.mono hsz1).trans (hk2.mono (by omega)));clear HZ HT hno hyes HW HA htold hk2 HB hix2 d0 d1;go_wp2;go_ret2;rw [HE0.out,HE1.out];exact ⟨_,rfl,q1D _ _,HK.out⟩
     | true=>
      have HA2:Hid _:=hyes htold;clear hyes hno htold;cases hval:t.valB x with
      | true=>
       have HTT:Hid (j1N t (zs.take (k+1))=j1N t (zs.take k)++[(x,y)]):=by show _=_; have:=HT.out; rw [hval] at this; exact this
       have hszw:=HB.size;have hszk:=hk2.size;have Z2:z1V w2.drew w1.heap.size wr.heap.size u6 (j1N t (zs.take k)):=(HZ.out.keep' hk2).keep' (Below.drew (Below.refl _ _));have hixd:z1E w2.drew (.slice ra rn rc) x:=hix2.below (Below.drew (Below.refl _ _));have d1d:w2.drew.cell? ⟨wr.heap.size,1,none⟩=some (.int .i64 y):=d1;have HKd:Hid (Below w1.heap.size w1 w2.drew):=(HB.trans (hk2.mono hszw)).drew;clear HT HZ HW HA hix2 hval hk2 HB;go_wp2;go_region_law (first
        | (go_simp; go_at_call 28; (refine (j2K _ x _ hixd hxl).mono ?_; rintro e w3 ⟨rv3,rfl,O3,hk3⟩; obtain ⟨ra3,rn3,rc3,rfl⟩:=O3.ints.shape; have d13:=q1N (p:=⟨wr.heap.size,1,none⟩) hk3 hbr2 d1d; have hsz3:w2.heap.size<=w3.heap.size:=hk3.size; obtain ⟨ps,hpsl,hspW,hprW,hfin⟩:=(Z2.keep' hk3).ready y O3 (by (show _<=w2.drew.heap.size); (show _<=w2.heap.size); omega) (by (show _<=w2.heap.size); omega) (by omega) (by omega); have hpl2:ps.length<=1048576:=(by omega)))
        | ((refine q2N rfl (.tmp 30) (.tmp 37) 35 rfl w1.heap.size 47 i0 Tryz.underlying35 hi hz0 hz1 hz2 u6 ps (by simp [Act.eval]) hspW ⟨w3.heap.size,0,none⟩ 1 1 [(.slice ra3 rn3 rc3,y)] (by simp [Act.eval]) rfl (q5L _ _ _ _) (fun p hp=>by simp at hp; subst hp; exact ⟨_,_,_,rfl⟩) (by simp; omega) (by simp; omega) ?_; intro v4 w4 hown4 hg4)))
       all_goals
        obtain ⟨Z4,B4⟩:=hfin v4 w4 hown4 hg4
        have HK:Hid (Below w1.heap.size w1 w4):=HKd.out.trans ((hk3.mono (by (show _<=w2.heap.size); omega)).trans B4)
        clear hfin hown4 hg4 hspW hprW B4 hk3 HKd Z2 hixd O3
        go_wp2
        go_roundw
        case rel=>exact ⟨k+1,by omega,by go_num,by show z1V _ _ _ _ _; rw [HTT.out]; exact Z4,HK.out,HA2.out⟩
        case measure=>simp [intOf]; omega
      | false=>
       have HTT:Hid (j1N t (zs.take (k+1))=j1N t (zs.take k)):=by show _=_; have:=HT.out; rw [hval] at this; simpa using this
       have HZ2:Hid (z1V w2 w1.heap.size w2.heap.size u6 (j1N t (zs.take k))):=(HZ.out.keep' hk2).wide (Nat.le_refl _) hk2.size (Nat.le_refl _);have HK:Hid (Below w1.heap.size w1 w2):=HB.trans (hk2.mono HB.size);clear HT HZ HB HW HA hix2 hk2;go_wp2;go_roundw
       case rel=>exact ⟨k+1,by omega,by go_num,by show z1V _ _ _ _ _; rw [HTT.out]; exact HZ2.out,HK.out,HA2.out⟩
       case measure=>simp [intOf]; omega
    ·
     have e:k=n:=by omega
     subst e;clear hc hrow;go_wp2;go_ret2;have hT:=HA.out;have hZ:=HZ.out;rw [HN.out,List.take_length] at hT hZ;have e0:x1W t zs=true:=by simp only [x1W,HOK.out,hT,Bool.and_self]
     have e1:q1S t zs=j1N t zs:=by simp [q1S,e0]
     rw [e0,e1];exact ⟨_,rfl,hZ.wide hsz1 (Nat.le_refl _) (Nat.le_refl _),HB1.out.trans (HW.out.mono hsz1)⟩
theorem where_in {t:Tst} {zs:List It} (hok:q1G zs=true) (k:Nat):∀ j,j<(j1N t (zs.take k)).length->-4611686018427387904<=((j1N t (zs.take k)).getD j ([],0)).2/\((j1N t (zs.take k)).getD j ([],0)).2<=4611686018427387903:=by
 intro j hj;have gm:∀ (l:List It) (j:Nat),j<l.length->l.getD j ([],0)∈l:=fun l j h=>by simp [List.getD,h]
 obtain ⟨i,hi,e⟩:=j1J (d:=([],0)) (List.mem_of_mem_take (j5P (gm _ j hj)));have:=(x3U (j1S hok hi).2).2;rw [e] at this;omega
theorem box_cells' {w:World} {g:Nat} {t:Tst} (h:q1K w g t):(w.cell? ⟨g,0,none⟩=some (.int .i64 t.k)/\w.cell? ⟨g,1,none⟩=some (.bool t.no)/\w.cell? ⟨g,2,none⟩=some (.int .i64 t.l.k)/\w.cell? ⟨g,3,none⟩=some (.int .i64 t.l.a)/\w.cell? ⟨g,4,none⟩=some (.int .i64 t.l.b))/\(w.cell? ⟨g,5,none⟩=some (.int .i64 t.l.n)/\w.cell? ⟨g,6,none⟩=some (.int .i64 t.r.k)/\w.cell? ⟨g,7,none⟩=some (.int .i64 t.r.a)/\w.cell? ⟨g,8,none⟩=some (.int .i64 t.r.b)/\w.cell? ⟨g,9,none⟩=some (.int .i64 t.r.n)):=by
 obtain ⟨_,c0,c1,⟨c2,c3,c4,c5⟩,c6,c7,c8,c9⟩:=h;exact ⟨⟨c0,c1,c2,c3,c4⟩,c5,c6,c7,c8,c9⟩
theorem k3Y (v:Value) (zs:List It) (t:Tst) (w:World) (h:z1I w v zs) :
  Calls Tryz.prog 63 #[v,.agg (t10 t).toArray] w fun e w'=> ∃ v',e = .returned (.tuple #[v',.bool (x1W t zs)])/\z1V w' w.heap.size w'.heap.size v' (q1S t zs)/\Below w.heap.size w w':=by
 cases hok:q1G zs with
 | false=>
  have e0:x1W t zs=false:=by simp [x1W,hok]
  have e1:q1S t zs=[]:=by simp [q1S,e0]
  rw [e0,e1];go_enter Tryz.func63,Tryz.ntmps63;go_wp2_with fail;refine (z1M v zs _ (h.below (z1B _))).mono ?_;rw [hok];rintro e w1 ⟨rfl,hd1⟩;have HK:Hid (Below w.heap.size w w1):=z1A (z1B _) hd1.below;clear h hd1 e0 e1;go_wp2;go_ret2;exact ⟨_,rfl,(z1T w1).wide HK.out.size (Nat.le_refl _) (Nat.le_refl _),z1D HK.out (z1C _)⟩
 | true=>
  have h100:=v1B hok;have HOK:Hid (q1G zs=true):=hok;go_enter Tryz.func63,Tryz.ntmps63;go_wp2_with fail;refine (z1M v zs _ (h.below (z1B _))).mono ?_;rw [hok];rintro e w1 ⟨rfl,hd1⟩;have HB1:Hid (Below w.heap.size w w1):=z1A (z1B _) hd1.below;have X1:Hid (q1K w1 w.heap.size t):=(q1K.start w t _).below hd1.below;have h1:=h.below HB1.out;clear h hd1 hok;rcases h1.cases with ⟨a,cap,rfl,rfl⟩ | ⟨b,off,cap,hpos,hlim,rfl,hbw,hc⟩
  ·
   clear h1;go_wp2;refine wp_loop_rounds 1 ?_;rw [rounds_succ];go_wp2;go_ret2;refine ⟨_,rfl,?_,z1D HB1.out (z1C _)⟩;have e1:q1S t []=[]:=by simp [q1S,j1N]
   rw [e1];exact (z1T w1).wide HB1.out.size (Nat.le_refl _) (Nat.le_refl _)
  ·
   clear h1;have hsz1:=HB1.out.size;have hg1:w.heap.size<w1.heap.size:=X1.out.1;obtain ⟨n,hn⟩:∃ n,n=zs.length:=⟨_,rfl⟩;have HN:Hid (n=zs.length):=hn;rw [<-hn] at hpos hlim hc h100 ⊢;clear hn;go_wp2;go_loopw [6,7] (fun s i wr=> ∃ (k:Nat),k<=n/\i = .int .i64 k/\Hid (z1V wr w1.heap.size wr.heap.size s (j1N t (zs.take k)))/\Hid (Below w1.heap.size w1 wr)/\Hid ((zs.take k).all (fun p=>t.toldB p.1)=true)) (fun _ i _=>n - (intOf i).toNat)
   case atStart=>exact ⟨0,Nat.zero_le _,rfl,z1T w1,z1C _,by show _=true; simp⟩
   case round=>
    obtain ⟨k,hk,rfl,HZ,HW,HA⟩:=hrel;by_cases hlt:k<n
    ·
     have HB:=HW.out;have hlt':k<zs.length:=by rw [<-HN.out]; exact hlt
     obtain ⟨rv,hrv0,hwt0,hix0⟩:=hc k hlt;have hrv:=(HB.cell (p:=⟨b,off+k*2,none⟩) hbw).trans hrv0;have hwt:=(HB.cell (p:=⟨b,off+k*2+1,none⟩) hbw).trans hwt0;have hix:=hix0.below HB;have hbr:b<wr.heap.size:=Nat.lt_of_lt_of_le hbw HB.size;have hgr:w.heap.size<wr.heap.size:=Nat.lt_of_lt_of_le hg1 HB.size;have hxl:=k1Z (j1S HOK.out hlt').1;have hyw:=(x3U (j1S HOK.out hlt').2).2;have hpl:(j1N t (zs.take k)).length<=100:=by have:=v3T t (zs.take k); rw [List.length_take] at this; omega
     have hput:=k5I (t:=t) HOK.out hlt';have HT:Hid _:=v2N (t:=t) hlt';have hno:=z5S (t:=t) hlt';have hyes:=q4P hlt' HA.out;have hbd:=where_in (t:=t) HOK.out k;obtain ⟨⟨c0,c1,c2,c3,c4⟩,c5,c6,c7,c8,c9⟩:=box_cells' ((X1.out.below HB).below (Below.drew (Below.refl _ _)));clear hrv0 hwt0 hix0 hc;obtain ⟨q,HP⟩:∃ q,Hid (q=zs.getD k ([],0)):=⟨_,rfl⟩;rw [<-HP.out] at hix hwt hxl hyw HT hno hyes hput;obtain ⟨x,y⟩:=q;obtain ⟨ra,rn,rc,rfl⟩:=hix.shape;simp only at hix hwt hxl hyw HT hno hyes hput;have hixd:z1E wr.drew (.slice ra rn rc) x:=hix.below (Below.drew (Below.refl _ _));have hrvd:wr.drew.cell? ⟨b,off+k*2,none⟩=some (.slice ra rn rc):=hrv;go_wp2;go_region_law (first
      | (go_simp; go_at_call 109; (refine (x3V t _ x _ hixd).mono ?_; rintro e w2 ⟨rfl,hk2⟩)))
     all_goals
      replace hk2:Below wr.heap.size wr w2:=(Below.drew (Below.refl _ wr)).trans hk2
      clear c0 c1 c2 c3 c4 c5 c6 c7 c8 c9 hixd hrvd
      have hrv2:=q1N (p:=⟨b,off+k*2,none⟩) hk2 hbr hrv
      have hwt2:=q1N (p:=⟨b,off+k*2+1,none⟩) hk2 hbr hwt
      have hix2:z1E w2 (.slice ra rn rc) x:=hix.below hk2
      clear hix hrv hwt
      cases htold:t.toldB x with
      | false=>
       have HE0:Hid _:=hno htold
       have HE1:Hid (q1S t zs=[]):=by show _=_; simp [q1S,HE0.out]
       have HK:Hid (Below w.heap.size w w2):=HB1.out.trans ((HB.mono hsz1).trans (hk2.mono (by omega)))
       clear HZ HT hno hyes HW HA htold hk2 HB hix2 hput hbd hrv2 hwt2
       go_wp2
       go_ret2
       rw [HE0.out,HE1.out]
       exact ⟨_,rfl,(z1T w2).wide HK.out.size (Nat.le_refl _) (Nat.le_refl _),z1D HK.out (z1C _)⟩
      | true=>
       have HA2:Hid _:=hyes htold
       clear hyes hno htold
       cases hval:t.valB x with
       | true=>
        have HTT:Hid (putZ (j1N t (zs.take k)) x y=j1N t (zs.take (k+1))):=hput hval
        have hszw:=HB.size
        have hszk:=hk2.size
        have HKd:Hid (Below w1.heap.size w1 w2):=HB.trans (hk2.mono hszw)
        have Z2:z1V w2 w1.heap.size w2.heap.size u6 (j1N t (zs.take k)):=(HZ.out.keep' hk2).wide (Nat.le_refl _) hk2.size (Nat.le_refl _)
        obtain ⟨zz,HZZ⟩:∃ zz,Hid (zz=j1N t (zs.take k)):=⟨_,rfl⟩
        rw [<-HZZ.out] at Z2 hbd hpl HTT
        clear HT HZ HW HA hval hk2 HB hput
        have Z2d:z1V w2.drew w1.heap.size w2.drew.heap.size u6 zz:=Z2.keep' (Below.drew (Below.refl _ _))
        have hixd:z1E w2.drew (.slice ra rn rc) x:=hix2.below (Below.drew (Below.refl _ _))
        have hrvd:w2.drew.cell? ⟨b,off+k*2,none⟩=some (.slice ra rn rc):=hrv2
        have hwtd:w2.drew.cell? ⟨b,off+k*2+1,none⟩=some (.int .i64 y):=hwt2
        have hszd:w1.heap.size<=w2.drew.heap.size:=by (show _<=w2.heap.size); omega
        have HKdd:Hid (Below w1.heap.size w1 w2.drew):=HKd.out.drew
        clear Z2 HKd
        go_wp2
        go_region_law (first
         | (go_simp; go_at_call 98; (refine (k1Q _ w1.heap.size w2.drew.heap.size zz _ x y _ Z2d hszd hixd (by omega) (by omega) hbd (by omega)).mono ?_; rintro e w3 ⟨v3,rfl,Z3,O3⟩)))
        all_goals
         have HK:Hid (Below w1.heap.size w1 w3):=O3.below HKdd.out (Nat.le_refl _) hszd
         have R3:Hid (z1V w3 w1.heap.size w3.heap.size v3 (j1N t (zs.take (k+1)))):=by rw [<-HTT.out]; exact Z3
         clear O3 Z3 Z2d hixd hix2 hbd hrv2 hwt2 hrvd hwtd
         go_wp2
         go_roundw
         case rel=>exact ⟨k+1,by omega,by go_num,R3.out,HK.out,HA2.out⟩
         case measure=>simp [intOf]; omega
       | false=>
        have HTT:Hid (j1N t (zs.take (k+1))=j1N t (zs.take k)):=by show _=_; have:=HT.out; rw [hval] at this; simpa using this
        have HZ2:Hid (z1V w2 w1.heap.size w2.heap.size u6 (j1N t (zs.take k))):=(HZ.out.keep' hk2).wide (Nat.le_refl _) hk2.size (Nat.le_refl _)
        have HK:Hid (Below w1.heap.size w1 w2):=HB.trans (hk2.mono HB.size)
        clear HT HZ HB HW HA hix2 hk2 hput hbd hrv2 hwt2
        go_wp2
        go_roundw
        case rel=>exact ⟨k+1,by omega,by go_num,by show z1V _ _ _ _ _; rw [HTT.out]; exact HZ2.out,HK.out,HA2.out⟩
        case measure=>simp [intOf]; omega
    ·
     have e:k=n:=by omega
     subst e;clear hc;go_wp2;go_ret2;have hT:=HA.out;have hZ:=HZ.out;rw [HN.out,List.take_length] at hT hZ;have e0:x1W t zs=true:=by simp only [x1W,HOK.out,hT,Bool.and_self]
     have e1:q1S t zs=j1N t zs:=by simp [q1S,e0]
     rw [e0,e1];exact ⟨_,rfl,hZ.wide hsz1 (Nat.le_refl _) (Nat.le_refl _),HB1.out.trans (HW.out.mono hsz1)⟩
def q2Z (w:World) (v:Value) (cs:List Cel):Prop:=
 ∃ (a:Option Addr) (cap:Nat),v = .slice a cs.length cap/\(cs≠[]->∃ b off,a=some ⟨b,off,none⟩/\b<w.heap.size/\∀ j,j<cs.length →
  w.cell? ⟨b,off+j*4,none⟩=some (.int .i64 (cs.getD j ⟨0,0,0,0⟩).k)/\w.cell? ⟨b,off+j*4+1,none⟩=some (.int .i64 (cs.getD j ⟨0,0,0,0⟩).a) ∧
  w.cell? ⟨b,off+j*4+2,none⟩=some (.int .i64 (cs.getD j ⟨0,0,0,0⟩).b)/\w.cell? ⟨b,off+j*4+3,none⟩=some (.int .i64 (cs.getD j ⟨0,0,0,0⟩).n))
theorem q2Z.below {w w':World} {v:Value} {cs:List Cel} (h:q2Z w v cs) (hb:Below w.heap.size w w'):q2Z w' v cs:=by
 obtain ⟨a,cap,rfl,hc⟩:=h;refine ⟨a,cap,rfl,fun hne=> ?_⟩;obtain ⟨b,off,rfl,hbw,hcell⟩:=hc hne;refine ⟨b,off,rfl,Nat.lt_of_lt_of_le hbw hb.size,fun j hj=> ?_⟩;obtain ⟨c0,c1,c2,c3⟩:=hcell j hj;exact ⟨(hb.cell (p:=⟨b,off+j*4,none⟩) hbw).trans c0,(hb.cell (p:=⟨b,off+j*4+1,none⟩) hbw).trans c1,(hb.cell (p:=⟨b,off+j*4+2,none⟩) hbw).trans c2,(hb.cell (p:=⟨b,off+j*4+3,none⟩) hbw).trans c3⟩
def v2R (cs:List Cel) (xs:List Int):List Int:=cs.map fun c=>c.valI xs
def k1U (cs:List Cel) (xs:List Int):Bool:=cs.all fun c=>c.toldB xs
theorem j4I {cs:List Cel} {xs:List Int} {k:Nat} (hk:k<cs.length):v2R (cs.take (k+1)) xs=v2R (cs.take k) xs++[(cs.getD k ⟨0,0,0,0⟩).valI xs]:=by
 unfold v2R;rw [List.take_succ_eq_append_getElem hk,List.map_append];simp [List.getD,hk]
theorem z5U {cs:List Cel} {xs:List Int} {k:Nat} (hk:k<cs.length) (h:(cs.getD k ⟨0,0,0,0⟩).toldB xs=false):k1U cs xs=false:=by
 unfold k1U;rw [List.all_eq_false];exact ⟨cs.getD k ⟨0,0,0,0⟩,by simp [List.getD,hk],by rw [h]; simp⟩
theorem q4Q {cs:List Cel} {xs:List Int} (h:∀ k,k<cs.length->(cs.getD k ⟨0,0,0,0⟩).toldB xs=true):k1U cs xs=true:=by
 unfold k1U;rw [List.all_eq_true];intro c hc;obtain ⟨j,hj,e⟩:=j1J (d:=(⟨0,0,0,0⟩:Cel)) hc;rw [<-e];exact h j hj
theorem j6E (w:World) (n:Int):z1E (w.alloc (.cells #[.int .i64 n] 3)) (.slice (some ⟨w.heap.size,0,none⟩) 1 1) [n]:=by
 refine ⟨by simp,_,_,rfl,by simp,fun _=>⟨_,_,rfl,by simp,fun j hj=> ?_⟩⟩;have:j=0:=by simp at hj; omega
 subst this;simp [go_sem]
theorem z6Y (w:World) (lo:Nat):Own w lo w.heap.size (.slice none 0 0) []:=⟨⟨rfl,.inl ⟨rfl,rfl⟩⟩,fun k hk=>by simp [Value.ownBlock] at hk,by simp,Nat.le_refl _⟩
theorem z6E (v rv:Value) (cs:List Cel) (xs:List Int) (w:World) (p:Addr) (hs:v1J w p) (hc:q2Z w v cs) (hx:z1E w rv xs) (hl0:1<=cs.length) (hl:cs.length<=6) :
  Calls Tryz.prog 29 #[v,rv] w fun e w'=> ∃ v',e = .returned (.tuple #[v',.bool (k1U cs xs)])/\Own w' w.heap.size w'.heap.size v' (if k1U cs xs then v2R cs xs else [])/\Below w.heap.size w w':=by
 obtain ⟨i0,hi,hz0,hz1,hz2⟩:=info_parts infoInt;obtain ⟨a,cap,rfl,hcc⟩:=hc;obtain ⟨b,off,rfl,hbw,hcell⟩:=hcc (fun e=>by rw [e] at hl0; simp at hl0);obtain ⟨n,hn⟩:∃ n,n=cs.length:=⟨_,rfl⟩;have HN:Hid (n=cs.length):=hn;rw [<-hn] at hl0 hl hcell ⊢;obtain ⟨os,HOS⟩:∃ os,Hid (os=if k1U cs xs then v2R cs xs else []):=⟨_,rfl⟩;obtain ⟨d,HD⟩:∃ d,Hid (d=k1U cs xs):=⟨_,rfl⟩;rw [<-HOS.out,<-HD.out];have HS:Hid (v1J w p):=hs;have HX:Hid (z1E w rv xs):=hx;clear hn hcc hs hx;go_enter Tryz.func29,Tryz.ntmps29;go_wp2_with (at_make; refine wpList_make_own _ rfl _ _ 28 rfl w.heap.size 3 i0 (.int .i64 0) 1 Tryz.underlying28 hi hz0 hz1 _ _ _ n rfl rfl (by omega) (by rw [hz2]; omega) (by unfold maxLen; omega) (Nat.le_refl _) ?_; intro w1 hown1 hgrow1);have hb1:Below w.heap.size w w1:=(Below.refl _ _).grown hgrow1 (Nat.le_refl _) (by simp);have HO1:Hid (Own w1 w.heap.size w1.heap.size (.slice (some ⟨w.heap.size,0,none⟩) 0 n) (v2R (cs.take 0) xs)):=x1Y (xs:=[]) (by simpa using hown1) (by simp);have HB1:Hid (Below w.heap.size w w1):=hb1;clear hown1 hgrow1 hb1;go_wp2;go_loopw [6,16] (fun s i wr=> ∃ (k:Nat),k<=n/\i = .int .i64 k/\Hid (Own wr w.heap.size wr.heap.size s (v2R (cs.take k) xs))/\Hid (Below w.heap.size w wr)/\Hid (∀ j,j<k->(cs.getD j ⟨0,0,0,0⟩).toldB xs=true)) (fun _ i _=>n - (intOf i).toNat)
 case atStart=>exact ⟨0,Nat.zero_le _,rfl,HO1.out,HB1.out,fun j hj=>by omega⟩
 case round=>
  obtain ⟨k,hk,rfl,HO,HW,HA⟩:=hrel;clear HO1 HB1;by_cases hlt:k<n
  ·
   have hk':k<cs.length:=by rw [<-HN.out]; exact hlt
   have hbq:=HW.out;obtain ⟨c0,c1,c2,c3⟩:=hcell k hlt;have HT:Hid _:=j4I (xs:=xs) hk';have hno:=z5U (xs:=xs) hk';obtain ⟨c,HC⟩:∃ c,Hid (c=cs.getD k ⟨0,0,0,0⟩):=⟨_,rfl⟩;rw [<-HC.out] at c0 c1 c2 c3 HT hno;have g0:=(hbq.cell (p:=⟨b,off+k*4,none⟩) hbw).trans c0;have g1:=(hbq.cell (p:=⟨b,off+k*4+1,none⟩) hbw).trans c1;have g2:=(hbq.cell (p:=⟨b,off+k*4+2,none⟩) hbw).trans c2;have g3:=(hbq.cell (p:=⟨b,off+k*4+3,none⟩) hbw).trans c3;have hbr:b<wr.heap.size:=Nat.lt_of_lt_of_le hbw hbq.size;have hrl:(v2R (cs.take k) xs).length<=6:=by unfold v2R; rw [List.length_map,List.length_take]; omega
   clear c0 c1 c2 c3 hcell;go_wp2_with fail;refine (v3K c rv xs _ p (HS.out.below (z1D hbq (z1C _))) (HX.out.below (z1D hbq (z1C _)))).mono ?_;rintro e w2 ⟨rfl,hb2⟩;have hk2:Below wr.heap.size wr w2:=z1D (z1C _) hb2;clear hb2 g0 g1 g2 g3;cases ht:c.toldB xs with
   | false=>
    have hd:d=false:=by rw [HD.out]; exact hno ht
    have hos:os=[]:=by rw [HOS.out,hno ht]; rfl
    subst hd hos;have HK:Hid (Below w.heap.size w w2):=hbq.trans (hk2.mono hbq.size);clear hno ht HT HO HW HA hbq hk2;go_wp2;go_ret2;exact ⟨_,rfl,z6Y _ _,HK.out⟩
   | true=>
    have HA2:Hid (∀ j,j<k+1->(cs.getD j ⟨0,0,0,0⟩).toldB xs=true):=fun j hj=>by
     rcases Nat.lt_succ_iff_lt_or_eq.1 hj with h | h
     ·
      exact HA.out j h
     ·
      rw [h,<-HC.out]; exact ht
    obtain ⟨z,HZ⟩:∃ z,Hid (z=c.valI xs):=⟨_,rfl⟩;rw [<-HZ.out] at HT ⊢;have hO2:Own w2 w.heap.size wr.heap.size u6 (v2R (cs.take k) xs):=HO.out.keep' hk2;have hal:Below w2.heap.size w2 (w2.alloc (.cells #[.int .i64 z] 3)):=z1C _;have hO3:=hO2.keep' hal;have hsz2:w.heap.size<=w2.heap.size:=Nat.le_trans hbq.size hk2.size;have HKK:Hid (Below w.heap.size w (w2.alloc (.cells #[.int .i64 z] 3))):=(hbq.trans (hk2.mono hbq.size)).trans (hal.mono hsz2);clear hno ht HO HW HA hbq hk2 hO2;go_wp2_with (at_builtin; refine z1Q rfl _ _ 28 rfl w.heap.size 3 i0 Tryz.underlying28 hi hz0 hz1 hz2 u6 _ _ rfl hO3.1 _ [z] rfl (j6E w2 z) (by simp; omega) (by simp; omega) ?_; intro v3 w3 hown3 hg3 _);have O3:Own w3 w.heap.size w3.heap.size v3 (v2R (cs.take k) xs++[z]):=x1Y (xs:=v2R (cs.take k) xs++[z]) (by simpa using hown3) (by simp; omega);have HO3:Hid (Own w3 w.heap.size w3.heap.size v3 (v2R (cs.take (k+1)) xs)):=by rw [Hid,HT.out]; exact O3
    have HK3:Hid (Below w.heap.size w w3):=HKK.out.grown hg3 HKK.out.size (fun i hi'=>(hO3.1.lt i hi').1);clear hown3 hg3 O3 hO3 hal HKK;go_wp2;go_roundw
    case rel=>exact ⟨k+1,by omega,by go_num,HO3.out,HK3.out,HA2.out⟩
    case measure=>simp [intOf]; omega
  ·
   obtain rfl:k=n:=by omega
   have hO:=HO.out;rw [HN.out,List.take_length] at hO;have ht:k1U cs xs=true:=q4Q (fun j hj=>HA.out j (by rw [HN.out]; exact hj));have hd:d=true:=by rw [HD.out,ht]
   have hos:os=v2R cs xs:=by rw [HOS.out,ht]; rfl
   subst hd hos;clear hcell ht;go_wp2;go_ret2;exact ⟨_,rfl,hO,HW.out⟩
theorem k4F (v rv:Value) (cs:List Cel) (xs:List Int) (w:World) (hc:q2Z w v cs) (hx:z1E w rv xs) (hl0:1<=cs.length) (hl:cs.length<=6) :
  Calls Tryz.prog 110 #[v,rv] w fun e w'=> ∃ v',e = .returned (.tuple #[v',.bool (k1U cs xs)])/\Own w' w.heap.size w'.heap.size v' (if k1U cs xs then v2R cs xs else [])/\Below w.heap.size w w':=by
 obtain ⟨i0,hi,hz0,hz1,hz2⟩:=info_parts infoInt;obtain ⟨a,cap,rfl,hcc⟩:=hc;obtain ⟨b,off,rfl,hbw,hcell⟩:=hcc (fun e=>by rw [e] at hl0; simp at hl0);obtain ⟨n,hn⟩:∃ n,n=cs.length:=⟨_,rfl⟩;have HN:Hid (n=cs.length):=hn;rw [<-hn] at hl0 hl hcell ⊢;obtain ⟨os,HOS⟩:∃ os,Hid (os=if k1U cs xs then v2R cs xs else []):=⟨_,rfl⟩;obtain ⟨d,HD⟩:∃ d,Hid (d=k1U cs xs):=⟨_,rfl⟩;rw [<-HOS.out,<-HD.out];have HX:Hid (z1E w rv xs):=hx;clear hn hcc hx;go_enter Tryz.func110,Tryz.ntmps110;have HO1:Hid (Own (w.alloc (.cells #[] 3)) w.heap.size (w.alloc (.cells #[] 3)).heap.size (.slice (some ⟨w.heap.size,0,none⟩) 0 0) (v2R (cs.take 0) xs)):=x1Y (n:=0) (xs:=[]) (World.ownsRow_lit w #[] 0 (Nat.le_refl _) (by unfold maxLen; omega) rfl) (by simp);have HB1:Hid (Below w.heap.size w (w.alloc (.cells #[] 3))):=z1C _;go_wp2;go_loopw [6,7] (fun s i wr=> ∃ (k:Nat),k<=n/\i = .int .i64 k/\Hid (Own wr w.heap.size wr.heap.size s (v2R (cs.take k) xs))/\Hid (Below w.heap.size w wr)/\Hid (∀ j,j<k->(cs.getD j ⟨0,0,0,0⟩).toldB xs=true)) (fun _ i _=>n - (intOf i).toNat)
 case atStart=>exact ⟨0,Nat.zero_le _,rfl,HO1.out,HB1.out,fun j hj=>by omega⟩
 case round=>
  obtain ⟨k,hk,rfl,HO,HW,HA⟩:=hrel;clear HO1 HB1;by_cases hlt:k<n
  ·
   have hk':k<cs.length:=by rw [<-HN.out]; exact hlt
   have hbq:=HW.out;obtain ⟨c0,c1,c2,c3⟩:=hcell k hlt;have HT:Hid _:=j4I (xs:=xs) hk';have hno:=z5U (xs:=xs) hk';obtain ⟨c,HC⟩:∃ c,Hid (c=cs.getD k ⟨0,0,0,0⟩):=⟨_,rfl⟩;rw [<-HC.out] at c0 c1 c2 c3 HT hno;have g0:=(hbq.cell (p:=⟨b,off+k*4,none⟩) hbw).trans c0;have g1:=(hbq.cell (p:=⟨b,off+k*4+1,none⟩) hbw).trans c1;have g2:=(hbq.cell (p:=⟨b,off+k*4+2,none⟩) hbw).trans c2;have g3:=(hbq.cell (p:=⟨b,off+k*4+3,none⟩) hbw).trans c3;have hbr:b<wr.heap.size:=Nat.lt_of_lt_of_le hbw hbq.size;have hrl:(v2R (cs.take k) xs).length<=6:=by unfold v2R; rw [List.length_map,List.length_take]; omega
   clear c0 c1 c2 c3 hcell;go_wp2_with fail;refine (z1U c rv xs _ (HX.out.below hbq)).mono ?_;rintro e w2 ⟨rfl,hk2⟩;clear g0 g1 g2 g3;cases ht:c.toldB xs with
   | false=>
    have hd:d=false:=by rw [HD.out]; exact hno ht
    have hos:os=[]:=by rw [HOS.out,hno ht]; rfl
    subst hd hos;have HK:Hid (Below w.heap.size w w2):=hbq.trans (hk2.mono hbq.size);clear hno ht HT HO HW HA hbq hk2;go_wp2;go_ret2;exact ⟨_,rfl,z6Y _ _,HK.out⟩
   | true=>
    have HA2:Hid (∀ j,j<k+1->(cs.getD j ⟨0,0,0,0⟩).toldB xs=true):=fun j hj=>by
     rcases Nat.lt_succ_iff_lt_or_eq.1 hj with h | h
     ·
      exact HA.out j h
     ·
      rw [h,<-HC.out]; exact ht
    obtain ⟨z,HZ⟩:∃ z,Hid (z=c.valI xs):=⟨_,rfl⟩;rw [<-HZ.out] at HT ⊢;have hO2:Own w2 w.heap.size wr.heap.size u6 (v2R (cs.take k) xs):=HO.out.keep' hk2;have hal:Below w2.heap.size w2 (w2.alloc (.cells #[.int .i64 z] 3)):=z1C _;have hO3:=hO2.keep' hal;have hsz2:w.heap.size<=w2.heap.size:=Nat.le_trans hbq.size hk2.size;have HKK:Hid (Below w.heap.size w (w2.alloc (.cells #[.int .i64 z] 3))):=(hbq.trans (hk2.mono hbq.size)).trans (hal.mono hsz2);clear hno ht HO HW HA hbq hk2 hO2;go_wp2_with (at_builtin; refine z1Q rfl _ _ 28 rfl w.heap.size 3 i0 Tryz.underlying28 hi hz0 hz1 hz2 u6 _ _ rfl hO3.1 _ [z] rfl (j6E w2 z) (by simp; omega) (by simp; omega) ?_; intro v3 w3 hown3 hg3 _);have O3:Own w3 w.heap.size w3.heap.size v3 (v2R (cs.take k) xs++[z]):=x1Y (xs:=v2R (cs.take k) xs++[z]) (by simpa using hown3) (by simp; omega);have HO3:Hid (Own w3 w.heap.size w3.heap.size v3 (v2R (cs.take (k+1)) xs)):=by rw [Hid,HT.out]; exact O3
    have HK3:Hid (Below w.heap.size w w3):=HKK.out.grown hg3 HKK.out.size (fun i hi'=>(hO3.1.lt i hi').1);clear hown3 hg3 O3 hO3 hal HKK;go_wp2;go_roundw
    case rel=>exact ⟨k+1,by omega,by go_num,HO3.out,HK3.out,HA2.out⟩
    case measure=>simp [intOf]; omega
  ·
   obtain rfl:k=n:=by omega
   have hO:=HO.out;rw [HN.out,List.take_length] at hO;have ht:k1U cs xs=true:=q4Q (fun j hj=>HA.out j (by rw [HN.out]; exact hj));have hd:d=true:=by rw [HD.out,ht]
   have hos:os=v2R cs xs:=by rw [HOS.out,ht]; rfl
   subst hd hos;clear hcell ht;go_wp2;go_ret2;exact ⟨_,rfl,hO,HW.out⟩
theorem cells_no {cs:List Cel} {wd:Int} {k:Nat} (hk:k<cs.length) (h:(cs.getD k ⟨0,0,0,0⟩).okB wd=false):(decide (1<=cs.length/\cs.length<=6)&&cs.all (fun c=>c.okB wd))=false:=by
 have hm:cs.getD k ⟨0,0,0,0⟩∈cs:=by simp [List.getD,hk]
 have:cs.all (fun c=>c.okB wd)=false:=by
  rw [List.all_eq_false]; exact ⟨_,hm,by rw [h]; decide⟩
 rw [this,Bool.and_false]
theorem j6Z {cs:List Cel} {wd:Int} (h:∀ j,j<cs.length->(cs.getD j ⟨0,0,0,0⟩).okB wd=true):(decide (1<=cs.length/\cs.length<=6)&&cs.all (fun c=>c.okB wd))=decide (1<=cs.length/\cs.length<=6):=by
 have:cs.all (fun c=>c.okB wd)=true:=by
  rw [List.all_eq_true]; intro c hc;obtain ⟨j,hj,e⟩:=List.mem_iff_getElem.1 hc;have:=h j hj;simp only [List.getD,List.getElem?_eq_getElem hj,Option.getD_some,e] at this;exact this
 rw [this,Bool.and_true]
theorem j3X (v:Value) (cs:List Cel) (wd:Int) (w:World) (hc:q2Z w v cs) (hlen:cs.length<=1048576) :
  Calls Tryz.prog 104 #[v,.int .i64 wd] w fun e w'=>e = .returned (.bool (decide (1<=cs.length/\cs.length<=6)&&cs.all (fun c=>c.okB wd)))/\Below w.heap.size w w':=by
 obtain ⟨a,cap,rfl,hcc⟩:=hc;obtain ⟨d,HD⟩:∃ d,Hid (d=(decide (1<=cs.length/\cs.length<=6)&&cs.all (fun c=>c.okB wd))):=⟨_,rfl⟩;rw [<-HD.out];by_cases hne:cs=[]
 ·
  subst hne;have hd:d=false:=by rw [HD.out]; rfl
  subst hd;clear hcc;rw [List.length_nil];go_enter Tryz.func104,Tryz.ntmps104;go_wp2;refine wp_loop_rounds 1 ?_;rw [rounds_succ];go_wp2;go_ret;exact ⟨rfl,Below.refl _ _⟩
 ·
  obtain ⟨b,off,rfl,hbw,hcell⟩:=hcc hne;have hpos:1<=cs.length:=by cases cs with | nil=>exact absurd rfl hne | cons _ _=>simp
  obtain ⟨n,hn⟩:∃ n,n=cs.length:=⟨_,rfl⟩;have HN:Hid (n=cs.length):=hn;have HDN:Hid ((∀ j,j<n->(cs.getD j ⟨0,0,0,0⟩).okB wd=true)->d=decide (1<=n/\n<=6)):=fun h=>by rw [HD.out,j6Z (fun j hj=>h j (by rw [hn]; exact hj)),hn]
  rw [<-hn] at hlen hpos hcell ⊢;clear hn hcc hne;go_enter Tryz.func104,Tryz.ntmps104;go_wp2;go_loopw [5] (fun i wr=> ∃ k:Nat,k<=n/\i = .int .i64 k/\Hid (∀ j,j<k->(cs.getD j ⟨0,0,0,0⟩).okB wd=true)/\Hid (Below w.heap.size w wr)) (fun i _=>n - (intOf i).toNat)
  case atStart=>exact ⟨0,Nat.zero_le _,rfl,fun j hj=>by omega,Below.refl _ _⟩
  case round=>
   obtain ⟨k,hk,rfl,HA,HW⟩:=hrel;by_cases hlt:k<n
   ·
    have hk':k<cs.length:=by rw [<-HN.out]; exact hlt
    have hbq:=HW.out;obtain ⟨c0,c1,c2,c3⟩:=hcell k hlt;have hno:=cells_no (wd:=wd) hk';rw [<-HD.out] at hno;obtain ⟨c,HC⟩:∃ c,Hid (c=cs.getD k ⟨0,0,0,0⟩):=⟨_,rfl⟩;rw [<-HC.out] at c0 c1 c2 c3 hno;have g0:=(hbq.cell (p:=⟨b,off+k*4,none⟩) hbw).trans c0;have g1:=(hbq.cell (p:=⟨b,off+k*4+1,none⟩) hbw).trans c1;have g2:=(hbq.cell (p:=⟨b,off+k*4+2,none⟩) hbw).trans c2;have g3:=(hbq.cell (p:=⟨b,off+k*4+3,none⟩) hbw).trans c3;have hbr:b<wr.heap.size:=Nat.lt_of_lt_of_le hbw hbq.size;clear c0 c1 c2 c3 hcell;go_wp2_with fail;refine (q1A c wd _).mono ?_;rintro e w2 ⟨rfl,hk2⟩;clear g0 g1 g2 g3;have HK:Hid (Below w.heap.size w w2):=hbq.trans (hk2.mono hbq.size);cases ht:c.okB wd with
    | false=>
     have hd:d=false:=hno ht;subst hd;clear hno ht HW HA hbq hk2;go_wp2;go_ret;exact ⟨rfl,HK.out⟩
    | true=>
     have HA2:Hid (∀ j,j<k+1->(cs.getD j ⟨0,0,0,0⟩).okB wd=true):=fun j hj=>by
      rcases Nat.lt_succ_iff_lt_or_eq.1 hj with h | h
      ·
       exact HA.out j h
      ·
       rw [h,<-HC.out]; exact ht
     clear hno ht HW HA hbq hk2;go_wp2;go_roundw
     case rel=>exact ⟨k+1,by omega,by go_num,HA2.out,HK.out⟩
     case measure=>simp [intOf]; omega
   ·
    obtain rfl:k=n:=by omega
    have hd:=HDN.out HA.out;have HW2:=HW;clear HA hcell HDN;by_cases h6:k<=6
    ·
     have hd2:d=true:=by rw [hd]; simp; omega
     subst hd2;clear hd;have h6i:((k:Int)<=6):=by omega
     go_wp2;go_ret;exact ⟨rfl,HW2.out⟩
    ·
     have hd2:d=false:=by rw [hd]; simp; omega
     subst hd2;clear hd;have h6i:¬ ((k:Int)<=6):=by omega
     go_wp2;go_ret;exact ⟨rfl,HW2.out⟩
end Go.Proofs.YtmjaepdplbgohaaGreatDoor
namespace Go.Proofs.YtmjaepdplbgohaaGreatDoor
open Go.RowKit Go.Maps
def heldV (v:Value):Option (DataW Value × List MemPlace):=some (.held v,[])
def cKey (c:Int):Lit:=.int .i64 c
def j5J (w:World) (t:TypeId) (mb lo n:Nat) (G:Int->List Rw):Prop:=
 ∃ (D:DataW Value) (V:Int->Value),w.ownsMap Tryz.prog 3 heldV mb n D/\(∀ c,D.atKey (cKey c) (.held vn) = .held (V c))/\(∀ c,z1P w lo w.heap.size (V c) (prs (G c))) ∧
  (∀ c d,c≠d->(V c).ownBlock=none\/(V c).ownBlock≠(V d).ownBlock)/\mb<lo/\Tryz.prog.underlying t=some (.map 3 35)
theorem isMap_of {w:World} {mb n:Nat} {D:DataW Value} (h:w.ownsMap Tryz.prog 3 heldV mb n D):IsMap D:=by
 obtain ⟨es,_,_,_,_,hD⟩:=h;exact ⟨_,hD⟩
theorem k5T (w:World) (lo:Nat):z1P w lo w.heap.size vn (prs []):=⟨⟨rfl,.inl ⟨rfl,rfl⟩⟩,fun k hk=>by simp [vn,Value.ownBlock] at hk,by simp [prs],Nat.le_refl _⟩
theorem j6L (w:World) (t:TypeId) (ht:Tryz.prog.underlying t=some (.map 3 35)):j5J (w.alloc (.map #[] 0)) t w.heap.size (w.heap.size+1) 0 (fun _=>[]):=
 ⟨.map [],fun _=>vn,World.ownsMap_made w _ _ _,fun _=>rfl,fun _=>k5T _ _,fun _ _ _=> .inl rfl,Nat.lt_succ_self _,ht⟩
theorem wf_key {c:Int} (h : -9223372036854775808<=c/\c<=9223372036854775807):(Lit.int .i64 c).wf=true:=by
 have h1:IntKind.i64.min = -9223372036854775808:=by decide
 have h2:IntKind.i64.max=9223372036854775807:=by decide
 simp [Lit.wf,h1,h2];omega
theorem j5J.look {w:World} {t:TypeId} {mb lo n:Nat} {G:Int->List Rw} (h:j5J w t mb lo n G) {c:Int} (hc : -9223372036854775808<=c/\c<=9223372036854775807) (hn:n<maxLen) :
  ∃ v,(∀ w',w.grownBy w' none->(Instr.lookup t (.map (some mb)) (.int .i64 c) false).run Tryz.prog w' = .ok v w')/\z1P w lo w.heap.size v (prs (G c)) ∧
   ∀ (w1:World) (v':Value) (L:List Rw),w.grownBy w1 v.ownBlock->z1P w1 lo w1.heap.size v' (prs L)->(v'.ownBlock=v.ownBlock\/∃ g,v'.ownBlock=some g/\w.heap.size<=g) →
    ∃ w2,(Instr.mapUpdate t (.map (some mb)) (.int .i64 c) v').run Tryz.prog w1 = .ok () w2/\j5J w2 t mb lo (n+1) (fun d=>if d=c then L else G d)/\w1.grownBy w2 (some mb):=by
 obtain ⟨D,V,h1,h2,h3,h4,h5,h6⟩:=h;have K:Keyed Tryz.prog 3:=int_keyed Tryz.underlying3;have hk:keyOf Tryz.prog 3 (.int .i64 c)=some (cKey c):=keyOf_int_mk Tryz.underlying3 (wf_key hc);refine ⟨V c,fun w' hg=> ?_,h3 c,fun w1 v' L hg hs hloc=> ?_⟩
 ·
  have h1':=h1.kept hg (by simp);obtain ⟨v,ps,hrun,hv⟩:=h1'.lookup K h6 (z:=vn) (Tryz.zeroValue35 _) (zd:=.held vn) (zp:=[]) rfl hk;have:v=V c:=by
   simp only [heldV,h2 c] at hv;injection hv with hv;injection hv with hv _;injection hv
  rw [hrun,this]
 ·
  have hne:some mb≠(V c).ownBlock:=fun e=>by
   have:=((h3 c).1.lt mb e.symm).1
   omega
  have h1':=h1.kept hg hne;obtain ⟨w2,hrun,hm2,hg2⟩:=h1'.update K h6 hn hk (val:=v') (d:=.held v') (ps:=[]) rfl;have own_lo:∀ {u:Value} {ps:List (Value × Int)} {W:World},z1P W lo W.heap.size u ps->u.ownBlock=none\/u.ownBlock≠some mb:=fun {u ps W} ho=>by
   cases hu:u.ownBlock with
   | none=>exact .inl rfl
   | some g=>
    refine .inr (fun e=> ?_)
    have:=(ho.1.lt g hu).1
    simp at e
    omega
  have old_new:∀ d,d≠c->(V d).ownBlock=none\/(V d).ownBlock≠v'.ownBlock:=fun d hd=>by
   rcases hloc with e | ⟨g,e,hgl⟩
   ·
    rw [e]; exact h4 d c hd
   ·
    cases hd':(V d).ownBlock with
    | none=>exact .inl rfl
    | some gd=>
     refine .inr (fun e1=> ?_);have:=(h3 d).2.1 gd hd';rw [e] at e1;simp at e1;omega
  refine ⟨w2,hrun,⟨D.put (cKey c) (.held v'),fun d=>if d=c then v' else V d,hm2,fun d=> ?_,fun d=> ?_,fun d f hdf=> ?_,h5,h6⟩,hg2⟩
  ·
   show _=DataW.held (if d=c then v' else V d);by_cases hd:d=c
   ·
    subst hd;rw [if_pos rfl];exact atKey_put_same (k:=cKey d) (isMap_of h1) (by simp [cKey,WideAt.IsKeyLit]) _ _
   ·
    rw [if_neg hd,<-h2 d];exact atKey_put_other (fun e=>hd (by simpa [cKey] using e)) _ _
  ·
   by_cases hd:d=c
   ·
    simp only [if_pos hd];exact (hs.kept hg2 (own_lo hs)).wide (Nat.le_refl _) hg2.size (Nat.le_refl _)
   ·
    simp only [if_neg hd];have s1:z1P w1 lo w1.heap.size (V d) (prs (G d)):=((h3 d).kept hg (h4 d c hd)).wide (Nat.le_refl _) hg.size (Nat.le_refl _);exact (s1.kept hg2 (own_lo s1)).wide (Nat.le_refl _) hg2.size (Nat.le_refl _)
  ·
   by_cases hd:d=c
   ·
    by_cases hf:f=c
    ·
     exact absurd (hd.trans hf.symm) hdf
    ·
     simp only [if_pos hd,if_neg hf];rcases old_new f hf with e | e
     ·
      cases hv:v'.ownBlock with
      | none=>exact .inl rfl
      | some g=>exact .inr (fun e2=>by rw [e] at e2; cases e2)
     ·
      exact .inr (fun e2=>e e2.symm)
   ·
    by_cases hf:f=c
    ·
     simp only [if_neg hd,if_pos hf];exact old_new d hd
    ·
     simp only [if_neg hd,if_neg hf];exact h4 d f hdf
theorem v2G {P:Program} {ops:Array Oper} {o:Oper} {a:Act} {w:World} {K:Act->World->Prop} {Q:Exit->Act->World->Prop} {E:Prop}
  (hg:o.guard=none) (m x v:Operand) (t:TypeId) (hop:o.op=Op.mapUpdate t m x v) (mv xv vv:Value) (hm:a.eval m=mv) (hx:a.eval x=xv) (hv:a.eval v=vv)
  {w2:World} (hrun:(Instr.mapUpdate t mv xv vv).run P w = .ok () w2) (hK:K (a.put o.dst undef) w2) :
  if Region.wanted o (yielded ops a.tmps)=true then Oper.wp P o a w K Q else E:=by
 have hw:Region.wanted o (yielded ops a.tmps)=true:=by simp [Region.wanted,hg]
 rw [if_pos hw];unfold Oper.wp;simp [execOp,hop,hm,hx,hv,hrun,Result.andThen];exact hK
end Go.Proofs.YtmjaepdplbgohaaGreatDoor
namespace Go.Proofs.YtmjaepdplbgohaaGreatDoor
def k4S (c:UInt8):Bool:=48<=c.toNat&&c.toNat<=57
def x3L (l:List UInt8):Nat:=l.foldl (fun n c=>n*10+(c.toNat - 48)) 0
theorem z5E (l:List UInt8) (c:UInt8):x3L (l++[c])=x3L l*10+(c.toNat - 48):=by simp [x3L]
def digB (neg:Bool) (l:List UInt8):Bool:=decide (l≠[])&&decide (l.length<=17)&&!(decide (l.head? = some 48)&&(decide (1<l.length) || neg))&&l.all k4S
def numB (l:List UInt8):Option Int:=
 if l.head? = some 45 then (if digB true l.tail then some (-(x3L l.tail:Int)) else none)
 else (if digB false l then some (x3L l:Int) else none)
def q4H (q:List UInt8):List (List UInt8)->List (List UInt8)
 | []=>[q]
 | p :: ps=>(q++p) :: ps
def cutL:List UInt8->List (List UInt8)
 | []=>[[]]
 | c :: l=>if c=44 then [] :: cutL l else q4H [c] (cutL l)
def readAll:List (List UInt8)->Option (List Int)
 | []=>some []
 | p :: ps=>match numB p,readAll ps with
  | some x,some xs=>some (x :: xs)
  | _,_=>none
theorem head_app {xs ys:List UInt8} (h:xs≠[]):(xs++ys).head? = xs.head?:=by
 cases xs with
 | nil=>exact absurd rfl h
 | cons x xs=>rfl
theorem dig_of (u:Nat) (h:u<10):(UInt8.ofNat (48+u)).toNat=48+u:=by rw [UInt8.toNat_ofNat']; omega
theorem x3K {u:Nat} (h:u<10):Lib.decDigits u=[UInt8.ofNat (48+u)]:=by rw [Lib.decDigits,dif_pos h]
theorem x4T {u:Nat} (h:¬ u<10):Lib.decDigits u=Lib.decDigits (u / 10)++[UInt8.ofNat (48+u % 10)]:=by rw [Lib.decDigits,dif_neg h]
theorem dec_all:∀ u:Nat,(Lib.decDigits u).all k4S=true:=by
 intro u;induction u using Nat.strongRecOn with
 | ind u ih=>
  by_cases h:u<10
  ·
   rw [x3K h];simp [k4S]; omega
  ·
   rw [x4T h,List.all_append,ih (u / 10) (by omega)];simp [k4S]; omega
theorem j6R (u:Nat):Lib.decDigits u≠[]:=by
 by_cases h:u<10
 ·
  rw [x3K h]; simp
 ·
  rw [x4T h]; simp
theorem dec_val:∀ u:Nat,x3L (Lib.decDigits u)=u:=by
 intro u;induction u using Nat.strongRecOn with
 | ind u ih=>
  by_cases h:u<10
  ·
   rw [x3K h];simp [x3L]; omega
  ·
   rw [x4T h,z5E,ih (u / 10) (by omega),dig_of (u % 10) (by omega)];omega
theorem dec_head:∀ u:Nat,1<=u->(Lib.decDigits u).head?≠some 48:=by
 intro u;induction u using Nat.strongRecOn with
 | ind u ih=>
  intro hu;by_cases h:u<10
  ·
   rw [x3K h];intro e;have e2:UInt8.ofNat (48+u)=48:=by simpa using e
   have e3:=congrArg UInt8.toNat e2;rw [dig_of u h] at e3;have:(48:UInt8).toNat=48:=rfl;omega
  ·
   rw [x4T h,head_app (j6R _)];exact ih (u / 10) (by omega) (by omega)
theorem dec_len:∀ (k u:Nat),u<10 ^ (k+1)->(Lib.decDigits u).length<=k+1
 | 0,u,h=>by rw [x3K (by omega)]; simp
 | k+1,u,h=>by
  by_cases h1:u<10
  ·
   rw [x3K h1]; simp
  ·
   rw [x4T h1,List.length_append];have:=dec_len k (u / 10) (by rw [Nat.pow_succ] at h; omega);simp; omega
theorem num_itoa {x:Int} (h:q1W x=true):numB (Lib.itoa x)=some x:=by
 have hx : -1000000000<=x/\x<=1000000000:=by simpa [q1W] using h
 unfold numB Lib.itoa;by_cases hn:x<0
 ·
  rw [if_pos hn];have hlen:=dec_len 9 x.natAbs (by omega);have hh:=dec_head x.natAbs (by omega);have hg:digB true (Lib.decDigits x.natAbs)=true:=by
   simp [digB,j6R,dec_all,hh]; omega
  simp [hg,dec_val]; omega
 ·
  rw [if_neg hn];have hlen:=dec_len 9 x.toNat (by omega);have h45:(Lib.decDigits x.toNat).head?≠some 45:=by
   intro e;have hm:(45:UInt8)∈Lib.decDigits x.toNat:=List.mem_of_mem_head? e;have:=List.all_eq_true.1 (dec_all x.toNat) 45 hm;simp [k4S] at this
  have hg:digB false (Lib.decDigits x.toNat)=true:=by
   by_cases h0:x.toNat=0
   ·
    rw [h0,x3K (by omega)]; decide
   ·
    have hh:=dec_head x.toNat (by omega);simp [digB,j6R,dec_all,hh]; omega
  rw [if_neg h45,if_pos hg,dec_val];simp; omega
theorem cut_none:∀ {p:List UInt8},(∀ c∈p,c≠44)->cutL p=[p]
 | [],_=>rfl
 | c :: p,h=>by
  have ih:=cut_none (p:=p) (fun d hd=>h d (by simp [hd]))
  simp [cutL,h c (by simp),ih,q4H]
theorem cut_at:∀ {p l:List UInt8},(∀ c∈p,c≠44)->cutL (p++44 :: l)=p :: cutL l
 | [],l,_=>by simp [cutL]
 | c :: p,l,h=>by
  have ih:=cut_at (p:=p) (l:=l) (fun d hd=>h d (by simp [hd]))
  simp [cutL,h c (by simp),ih,q4H]
theorem j6A (x:Int):∀ c∈Lib.itoa x,c≠44:=by
 intro c hc e;subst e;unfold Lib.itoa at hc;by_cases h:x<0
 ·
  rw [if_pos h] at hc;rcases List.mem_cons.1 hc with e | e
  ·
   exact absurd e (by decide)
  ·
   have:=List.all_eq_true.1 (dec_all _) _ e;simp [k4S] at this
 ·
  rw [if_neg h] at hc;have:=List.all_eq_true.1 (dec_all _) _ hc;simp [k4S] at this
theorem cut_row:∀ (x:Int) (xs:List Int),cutL (rowTx (x :: xs))=(x :: xs).map Lib.itoa
 | x,[]=>by simp [rowTx,txTail,cut_none (j6A x)]
 | x,y :: ys=>by
  have ih:=cut_row y ys
  simp only [rowTx,txTail] at ih ⊢
  rw [cut_at (j6A x),ih]
  rfl
theorem all_itoa:∀ xs:List Int,xs.all q1W=true->readAll (xs.map Lib.itoa)=some xs
 | [],_=>rfl
 | x :: xs,h=>by
  simp only [List.all_cons,Bool.and_eq_true] at h
  simp [readAll,num_itoa h.1,all_itoa xs h.2]
def sumZ:List It->List Int->Int
 | [],_=>0
 | p :: zs,q=>(if p.1=q then p.2 else 0)+sumZ zs q
theorem x3F {q:List Int}:∀ (b a:List It),Srt a->z2V (j1L a b) q=z2V a q+sumZ b q
 | [],a,_=>by simp [j5I,sumZ]
 | p :: b,a,h=>by
  rw [z2T,x3F b _ (v2O h),k2Q h,sumZ]
  omega
theorem k5P {q:List Int} {a b:List It} (h:a.Perm b):sumZ a q=sumZ b q:=by
 induction h with
 | nil=>rfl
 | cons x _ ih=>simp only [sumZ,ih]
 | swap x y l=>simp only [sumZ]; omega
 | trans _ _ h1 h2=>rw [h1,h2]
def Asc (zs:List It):Prop:=zs.Pairwise fun p q=> ¬ ordL q.1 p.1 = -1
def k2E (acc:List It) (p:It):List It:=
 if 0<acc.length/\(acc.getD (acc.length - 1) ([],0)).1=p.1 then acc.set (acc.length - 1) ((acc.getD (acc.length - 1) ([],0)).1,(acc.getD (acc.length - 1) ([],0)).2+p.2) else acc++[p]
theorem k5R (p:It):k2E [] p=[p]:=by simp [k2E]
theorem j5S (ini:List It) (l p:It):k2E (ini++[l]) p=if l.1=p.1 then ini++[(l.1,l.2+p.2)] else (ini++[l])++[p]:=by
 unfold k2E;have e1:(ini++[l]).length - 1=ini.length:=by simp
 have e2:(ini++[l]).getD ini.length ([],0)=l:=by simp [List.getD]
 rw [e1,e2];by_cases h:l.1=p.1
 ·
  rw [if_pos ⟨by simp,h⟩,if_pos h];simp
 ·
  rw [if_neg (fun hc=>h hc.2),if_neg h]
def j6X (zs:List It):List It:=zs.foldl k2E []
theorem k2P {q:List Int} {x:It}:∀ {ini:List It},(∀ p∈ini,p.1≠x.1)->z2V (ini++[x]) q=z2V ini q+(if x.1=q then x.2 else 0)
 | [],_=>by simp [z1W,k1N]
 | p :: ini,h=>by
  rw [List.cons_append,z1W,z1W,k2P (fun y hy=>h y (by simp [hy]))]
  by_cases hp:p.1=q
  ·
   have:¬ x.1=q:=fun e=>h p (by simp) (by rw [hp,e]);simp [hp,this]
  ·
   simp [hp]
theorem k3X {ini:List It} {x:It}:Srt (ini++[x])<->Srt ini/\∀ p∈ini,ordL p.1 x.1 = -1:=by
 unfold Srt;rw [List.pairwise_append];simp
theorem clump_facts:∀ (zs acc:List It),Srt acc->(∀ x∈acc,∀ p∈zs,¬ ordL p.1 x.1 = -1)->Asc zs->Srt (zs.foldl k2E acc)/\∀ q,z2V (zs.foldl k2E acc) q=z2V acc q+sumZ zs q
 | [],acc,h,_,_=>⟨h,fun q=>by simp [sumZ]⟩
 | p :: zs,acc,h,hx,ha=>by
  obtain ⟨ha1,ha2⟩:=List.pairwise_cons.1 ha
  rw [List.foldl_cons]
  rcases List.eq_nil_or_concat acc with rfl | ⟨ini,l,rfl⟩
  ·
   rw [k5R];have:=clump_facts zs [p] (Srt.cons.2 ⟨fun x hx=>by simp at hx,Srt.nil⟩) (fun x hx y hy=>by simp at hx; rw [hx]; exact ha1 y hy) ha2;refine ⟨this.1,fun q=> ?_⟩;rw [this.2 q,z1W,k1N,sumZ];omega
  ·
   rw [List.concat_eq_append] at *;obtain ⟨h1,h2⟩:=k3X.1 h;rw [j5S];by_cases he:l.1=p.1
   ·
    rw [if_pos he];have hs:Srt (ini++[(l.1,l.2+p.2)]):=k3X.2 ⟨h1,h2⟩;have:=clump_facts zs (ini++[(l.1,l.2+p.2)]) hs (fun x hx' y hy=>by
     rcases List.mem_append.1 hx' with hm | hm
     ·
      exact hx x (by simp [hm]) y (by simp [hy])
     ·
      simp at hm;rw [hm];exact hx l (by simp) y (by simp [hy])) ha2
    refine ⟨this.1,fun q=> ?_⟩;rw [this.2 q,k2P (x:=(l.1,l.2+p.2)) (fun y hy e=>x2E (h2 y hy) e),k2P (x:=l) (fun y hy e=>x2E (h2 y hy) e),sumZ,<-he];simp only;by_cases hq:l.1=q <;> simp [hq] <;> omega
   ·
    rw [if_neg he];have hlp:ordL l.1 p.1 = -1:=z2N (hx l (by simp) p (by simp)) (fun e=>he e.symm);have hall:∀ y∈ini++[l],ordL y.1 p.1 = -1:=fun y hy=>by
     rcases List.mem_append.1 hy with hm | hm
     ·
      exact ordL_trans _ _ _ (h2 y hm) hlp
     ·
      simp at hm; rw [hm]; exact hlp
    have:=clump_facts zs ((ini++[l])++[p]) (k3X.2 ⟨h,hall⟩) (fun x hx' y hy=>by
     rcases List.mem_append.1 hx' with hm | hm
     ·
      exact hx x hm y (by simp [hy])
     ·
      simp at hm;rw [hm];exact ha1 y hy) ha2
    refine ⟨this.1,fun q=> ?_⟩;rw [this.2 q,k2P (fun y hy e=>x2E (hall y hy) e),sumZ];omega
theorem j5T {zs:List It} (f:It->Bool) (h:Srt zs):Srt (zs.filter f):=List.Pairwise.sublist List.filter_sublist h
theorem j6W {srt zs:List It} (hp:srt.Perm zs) (ha:Asc srt):(j6X srt).filter (fun p=>decide (p.2≠0))=j1L [] zs:=by
 obtain ⟨h1,h2⟩:Srt (j6X srt)/\∀ q,z2V (j6X srt) q=z2V [] q+sumZ srt q:=clump_facts srt [] Srt.nil (fun x hx=>by simp at hx) ha;refine canon (j5T _ h1) (fun p hp=>by simpa using (List.mem_filter.1 hp).2) (srt_add Srt.nil) (nz_add (fun p hp=>by simp at hp)) fun q=> ?_;rw [v2V h1,x3F zs [] Srt.nil,<-k5P hp];exact h2 q
def x2A (acc:List Rw) (x:Rw):List Rw:=
 if 0<acc.length/\(acc.getD (acc.length - 1) (vn,([],0))).2.1=x.2.1 then acc.set (acc.length - 1) ((acc.getD (acc.length - 1) (vn,([],0))).1,((acc.getD (acc.length - 1) (vn,([],0))).2.1,(acc.getD (acc.length - 1) (vn,([],0))).2.2+x.2.2)) else acc++[x]
theorem q3S {l:List Rw} {k:Nat} (hk:k<l.length):(its l).getD k ([],0)=(l.getD k (vn,([],0))).2:=by simp [its,List.getD,hk]
theorem x2V {l:List Rw} {k:Nat} (hk:k<l.length):(prs l).getD k (vn,0)=((l.getD k (vn,([],0))).1,(l.getD k (vn,([],0))).2.2):=by simp [prs,List.getD,hk]
theorem q6Z (acc:List Rw) (x:Rw):its (x2A acc x)=k2E (its acc) x.2:=by
 unfold x2A k2E;rw [q1E];by_cases h0:0<acc.length
 ·
  rw [q3S (by omega)];by_cases h:(acc.getD (acc.length - 1) (vn,([],0))).2.1=x.2.1
  ·
   rw [if_pos ⟨h0,h⟩,if_pos ⟨h0,h⟩];simp [its,List.map_set]
  ·
   rw [if_neg (fun hc=>h hc.2),if_neg (fun hc=>h hc.2)];simp [its]
 ·
  rw [if_neg (fun hc=>h0 hc.1),if_neg (fun hc=>h0 hc.1)];simp [its]
def j1Z (l:List Rw):List Rw:=l.foldl x2A []
theorem z5G (l:List Rw) (x:Rw):j1Z (l++[x])=x2A (j1Z l) x:=by simp [j1Z,List.foldl_append]
theorem its_clumpR_from:∀ (l acc:List Rw),its (l.foldl x2A acc)=(its l).foldl k2E (its acc)
 | [],acc=>rfl
 | x :: l,acc=>by
  rw [List.foldl_cons,its_clumpR_from l,q6Z]
  rfl
theorem k3J (l:List Rw):its (j1Z l)=j6X (its l):=its_clumpR_from l []
theorem k5Q (acc:List Rw) (x:Rw):((x2A acc x).map fun y=>(y.1,y.2.1)).Sublist ((acc++[x]).map fun y=>(y.1,y.2.1)):=by
 unfold x2A;by_cases h:0<acc.length/\(acc.getD (acc.length - 1) (vn,([],0))).2.1=x.2.1
 ·
  rw [if_pos h];have e:(acc.set (acc.length - 1) ((acc.getD (acc.length - 1) (vn,([],0))).1,((acc.getD (acc.length - 1) (vn,([],0))).2.1,(acc.getD (acc.length - 1) (vn,([],0))).2.2+x.2.2))).map (fun y=>(y.1,y.2.1))=acc.map fun y=>(y.1,y.2.1):=by
   rw [List.map_set];apply List.ext_getElem
   ·
    simp
   ·
    intro j h1 h2;rw [List.getElem_set];split
    ·
     rename_i hj;simp at h2;subst hj;simp [List.getD,h2]
    ·
     rfl
  rw [e,List.map_append];exact List.sublist_append_left _ _
 ·
  rw [if_neg h];exact List.Sublist.refl _
theorem clumpR_sub_from:∀ (l acc:List Rw),((l.foldl x2A acc).map fun y=>(y.1,y.2.1)).Sublist ((acc++l).map fun y=>(y.1,y.2.1))
 | [],acc=>by simp
 | x :: l,acc=>by
  rw [List.foldl_cons]
  have h1:=clumpR_sub_from l (x2A acc x)
  have h2:=k5Q acc x
  refine h1.trans ?_
  rw [List.map_append,show acc++x :: l=(acc++[x])++l by simp,List.map_append (l₂:=l)]
  exact h2.append (List.Sublist.refl _)
theorem q2W (l:List Rw):((j1Z l).map fun y=>(y.1,y.2.1)).Sublist (l.map fun y=>(y.1,y.2.1)):=by
 have:=clumpR_sub_from l [];rw [List.nil_append] at this;exact this
theorem x4Y (l:List Rw):z2W l<->(l.map fun y=>(y.1,y.2.1)).Pairwise fun a b=> ∀ k,a.1.ownBlock=some k->b.1.ownBlock≠some k:=by
 unfold z2W;rw [List.pairwise_map]
theorem x6F {l m:List Rw} (h:z2W m) (hs:(l.map fun y=>(y.1,y.2.1)).Sublist (m.map fun y=>(y.1,y.2.1))):z2W l:=(x4Y l).2 (List.Pairwise.sublist hs ((x4Y m).1 h))
theorem v4M {l m:List Rw} (hs:(l.map fun y=>(y.1,y.2.1)).Sublist (m.map fun y=>(y.1,y.2.1))) {x:Rw} (hx:x∈l):∃ y∈m,y.1=x.1/\y.2.1=x.2.1:=by
 have:(x.1,x.2.1)∈m.map fun y=>(y.1,y.2.1):=hs.subset (List.mem_map.2 ⟨x,hx,rfl⟩);obtain ⟨y,hy,e⟩:=List.mem_map.1 this;simp at e;exact ⟨y,hy,e.1,e.2⟩
theorem k3P {l m:List Rw} (h:z2W l) (hp:l.Perm m):z2W m:=by
 unfold z2W at *;refine (List.Perm.pairwise_iff ?_ hp).1 h;intro a b hab k hk hc;exact hab k hc hk
theorem v4N {B C:Int} (_hC0:0<=C) {acc:List It} {p:It} (h:∀ x∈acc,-B<=x.2/\x.2<=B) (hp : -C<=p.2/\p.2<=C) (hB:0<=B):∀ x∈k2E acc p,-(B+C)<=x.2/\x.2<=B+C:=by
 intro x hx;unfold k2E at hx;split at hx
 ·
  rename_i hc;rcases List.mem_or_eq_of_mem_set hx with hm | hm
  ·
   have:=h x hm; omega
  ·
   have hl:acc.getD (acc.length - 1) ([],0)∈acc:=by simp [List.getD,show acc.length - 1<acc.length by omega]
   have:=h _ hl;rw [hm];show -(B+C)<=(acc.getD (acc.length - 1) ([],0)).2+p.2/\(acc.getD (acc.length - 1) ([],0)).2+p.2<=B+C;omega
 ·
  rcases List.mem_append.1 hx with hm | hm
  ·
   have:=h x hm; omega
  ·
   simp at hm; rw [hm]; omega
theorem x3M {C:Int} (hC0:0<=C):∀ (zs acc:List It) (B:Int),0<=B->(∀ x∈acc,-B<=x.2/\x.2<=B)->(∀ p∈zs,-C<=p.2/\p.2<=C)->∀ x∈zs.foldl k2E acc,-(B+zs.length*C)<=x.2/\x.2<=B+zs.length*C
 | [],acc,B,_,h,_,x,hx=>by simpa using h x hx
 | p :: zs,acc,B,hB,h,hz,x,hx=>by
  have h1:=v4N hC0 h (hz p (by simp)) hB
  have h2:=x3M hC0 zs (k2E acc p) (B+C) (by omega) h1 (fun q hq=>hz q (by simp [hq])) x hx
  have e:B+C+(zs.length:Int)*C=B+((p :: zs).length:Int)*C:=by
   rw [List.length_cons,Int.natCast_add,Int.add_mul];simp;omega
  rw [e] at h2
  exact h2
def j1P (x:Int) (zs:List It):Bool:=zs.all fun p=>decide (0<=x/\x<(p.1.length:Int))
def z2Y (x:Int):Bool:=decide (0<=x/\x<6)
def j5C (a b:List It) (x y:Int):Bool:=z2Y x&&z2Y y&&(decide (a.length=0) || decide (b.length=0) || (j1P x a&&j1P y b))
def v1E (b:List It) (y:Nat) (c:Int):List It:=b.filter fun q=>decide (q.1.getD y 0=c)
def v1F (p:It) (qs:List It):List It:=qs.map fun q=>(p.1++q.1,p.2*q.2)
def j1H (a b:List It) (x y:Nat):List It:=a.flatMap fun p=>v1F p (v1E b y (p.1.getD x 0))
def z2Q (a b:List It) (x y:Int):Bool:=q1G a&&q1G b&&j5C a b x y&&q1G (j1L [] (j1H a b x.toNat y.toNat))
def v1O (a b:List It) (x y:Int):List It:=if z2Q a b x y then j1L [] (j1H a b x.toNat y.toNat) else []
theorem k3G {a:List It} (b:List It) (x y:Nat) {k:Nat} (hk:k<a.length):j1H (a.take (k+1)) b x y=j1H (a.take k) b x y++v1F (a.getD k ([],0)) (v1E b y ((a.getD k ([],0)).1.getD x 0)):=by
 unfold j1H;rw [List.take_succ_eq_append_getElem hk,List.flatMap_append];simp [List.getD,hk]
theorem x5R {b:List It} (y:Nat) (c:Int) {k:Nat} (hk:k<b.length):v1E (b.take (k+1)) y c=v1E (b.take k) y c++(if (b.getD k ([],0)).1.getD y 0=c then [b.getD k ([],0)] else []):=by
 unfold v1E;rw [List.take_succ_eq_append_getElem hk,List.filter_append];congr 1;have e:b.getD k ([],0)=b[k]:=by simp [List.getD,hk]
 rw [e,List.filter_cons,List.filter_nil];by_cases h:b[k].1.getD y 0=c
 ·
  rw [if_pos h,if_pos (by simpa using h)]
 ·
  rw [if_neg h,if_neg (by simpa using h)]
theorem q4O (p:It) (qs rs:List It):v1F p (qs++rs)=v1F p qs++v1F p rs:=by simp [v1F]
theorem j5N {p:It} {qs:List It} {j:Nat} (hj:j<qs.length):v1F p (qs.take (j+1))=v1F p (qs.take j)++[(p.1++(qs.getD j ([],0)).1,p.2*(qs.getD j ([],0)).2)]:=by
 unfold v1F;rw [List.take_succ_eq_append_getElem hj,List.map_append];simp [List.getD,hj]
theorem j4U (b:List It) (y:Nat) (c:Int):(v1E b y c).length<=b.length:=List.length_filter_le _ _
theorem j3A (p:It) (qs:List It):(v1F p qs).length=qs.length:=by simp [v1F]
theorem k2L (b:List It) (x y:Nat):∀ a:List It,(j1H a b x y).length<=a.length*b.length
 | []=>by simp [j1H]
 | p :: a=>by
  have ih:=k2L b x y a
  have h2:=j4U b y (p.1.getD x 0)
  unfold j1H at *
  rw [List.flatMap_cons,List.length_append,j3A,List.length_cons,Nat.add_mul]
  omega
theorem q5M {p z:It} {qs:List It} (h:z∈v1F p qs):∃ q∈qs,z=(p.1++q.1,p.2*q.2):=by
 obtain ⟨q,hq,rfl⟩:=List.mem_map.1 h;exact ⟨q,hq,rfl⟩
theorem q5N {a b:List It} {x y:Nat} {z:It} (h:z∈j1H a b x y):∃ p∈a,∃ q∈b,z=(p.1++q.1,p.2*q.2):=by
 unfold j1H at h;obtain ⟨p,hp,hz⟩:=List.mem_flatMap.1 h;obtain ⟨q,hq,e⟩:=q5M hz;exact ⟨p,hp,q,(List.mem_filter.1 hq).1,e⟩
theorem k5B {zs:List It} (h:q1G zs=true) {p:It} (hp:p∈zs):p.1.length<=6/\-10000<=p.2/\p.2<=10000:=by
 refine ⟨zOk_mem h hp,?_⟩;obtain ⟨j,hj,e⟩:=j1J (d:=([],0)) hp;have:=(x3U (j1S h hj).2).2;rw [e] at this;exact this
theorem z3W {a b A B:Int} (ha : -A<=a/\a<=A) (hb : -B<=b/\b<=B) (hA:0<=A) (hB:0<=B) : -(A*B)<=a*b/\a*b<=A*B:=by
 have h1:a.natAbs<=A.natAbs:=by omega
 have h2:b.natAbs<=B.natAbs:=by omega
 have h3:(a*b).natAbs<=(A*B).natAbs:=by
  rw [Int.natAbs_mul,Int.natAbs_mul];exact Nat.mul_le_mul h1 h2
 have h4:0<=A*B:=Int.mul_nonneg hA hB;omega
theorem q6Y {a b:List It} (ha:q1G a=true) (hb:q1G b=true) {x y:Nat} {z:It} (h:z∈j1H a b x y):z.1.length<=12/\-100000000<=z.2/\z.2<=100000000:=by
 obtain ⟨p,hp,q,hq,rfl⟩:=q5N h;have h1:=k5B ha hp;have h2:=k5B hb hq;have h3:=z3W (A:=10000) (B:=10000) h1.2 h2.2 (by omega) (by omega);refine ⟨?_,by show -100000000<=p.2*q.2; omega,by show p.2*q.2<=100000000; omega⟩;show (p.1++q.1).length<=12;rw [List.length_append];omega
theorem join_few {a b:List It} (ha:q1G a=true) (hb:q1G b=true) (x y:Nat):(j1H a b x y).length<=10000:=by
 have h1:=k2L b x y a;have h2:=v1B ha;have h3:=v1B hb;have h4:a.length*b.length<=100*100:=Nat.mul_le_mul h2 h3;omega
theorem can_at {a b:List It} {x y:Int} (h:j5C a b x y=true) (ha:0<a.length) (hb:0<b.length):(0<=x/\x<6)/\(0<=y/\y<6)/\(∀ k,k<a.length->x<((a.getD k ([],0)).1.length:Int))/\∀ k,k<b.length->y<((b.getD k ([],0)).1.length:Int):=by
 unfold j5C z2Y at h;simp only [Bool.and_eq_true,Bool.or_eq_true,decide_eq_true_eq] at h;obtain ⟨⟨hx,hy⟩,h3⟩:=h;have h4:j1P x a=true/\j1P y b=true:=by
  rcases h3 with (h3 | h3) | h3
  ·
   omega
  ·
   omega
  ·
   exact h3
 have at_of:∀ {zs:List It} {x:Int},j1P x zs=true->∀ k,k<zs.length->x<((zs.getD k ([],0)).1.length:Int):=fun {zs x} h k hk=>by
  unfold j1P at h
  rw [List.all_eq_true] at h
  have:=h (zs.getD k ([],0)) (by simp [List.getD,hk])
  simpa using (of_decide_eq_true this).2
 exact ⟨hx,hy,at_of h4.1,at_of h4.2⟩
def j2H (ks:List Int) (wd:Int) (i:Nat):Bool:=decide (0<=ks.getD i 0/\ks.getD i 0<wd)&&!decide (ks.getD i 0∈ks.take i)
def v1N (ks:List Int) (wd:Int):Bool:=decide (ks.length<6)&&(List.range ks.length).all (j2H ks wd)
def j1I (zs:List It) (ks:List Int):Bool:=ks.all fun k=>j1P k zs
def v3M (ks:List Int) (col:Int) (p:It):Bool:=v1N ks p.1.length&&decide (0<=col/\col<(p.1.length:Int))
def q4E (zs:List It) (ks:List Int) (col:Int):Bool:=zs.all (v3M ks col)
def x1S (r ks:List Int):List Int:=ks.map fun k=>r.getD k.toNat 0
theorem q2V {ks:List Int} {i:Nat} (h:i<ks.length):ks.getD i 0∈ks:=by simp [List.getD,h]
theorem q6W {ks:List Int} {wd:Int} (h:¬ ks.length<6):v1N ks wd=false:=by unfold v1N; simp [h]
theorem x2G {ks:List Int} {wd:Int} {i:Nat} (hi:i<ks.length) (h:j2H ks wd i=false):v1N ks wd=false:=by
 have:(List.range ks.length).all (j2H ks wd)=false:=by
  rw [List.all_eq_false];exact ⟨i,List.mem_range.2 hi,by simp [h]⟩
 unfold v1N; rw [this,Bool.and_false]
theorem z4S {ks:List Int} {wd:Int} (h:∀ i,i<ks.length->j2H ks wd i=true):v1N ks wd=decide (ks.length<6):=by
 have:(List.range ks.length).all (j2H ks wd)=true:=by
  rw [List.all_eq_true];exact fun i hi=>h i (List.mem_range.1 hi)
 unfold v1N; rw [this,Bool.and_true]
theorem x3A {ks:List Int} {wd:Int} {i:Nat} (h:decide (0<=ks.getD i 0/\ks.getD i 0<wd)=false):j2H ks wd i=false:=by unfold j2H; rw [h]; rfl
theorem j3Z {ks:List Int} {wd:Int} {i:Nat} (h:ks.getD i 0∈ks.take i):j2H ks wd i=false:=by unfold j2H; rw [decide_eq_true h,Bool.not_true,Bool.and_false]
theorem j3Y {ks:List Int} {wd:Int} {i:Nat} (h:decide (0<=ks.getD i 0/\ks.getD i 0<wd)=true) (h2:¬ ks.getD i 0∈ks.take i):j2H ks wd i=true:=by unfold j2H; rw [h,decide_eq_false h2]; rfl
theorem x2Y {ks:List Int} {wd:Int} (h:v1N ks wd=true):ks.length<6/\∀ i,i<ks.length->j2H ks wd i=true:=by
 unfold v1N at h;rw [Bool.and_eq_true,List.all_eq_true] at h;exact ⟨of_decide_eq_true h.1,fun i hi=>h.2 i (List.mem_range.2 hi)⟩
theorem k4P {ks:List Int} {wd:Int} (h:v1N ks wd=true) (n:Int):v1N ks n=ks.all fun k=>decide (0<=k/\k<n):=by
 obtain ⟨hl,hp⟩:=x2Y h;cases hb:ks.all fun k=>decide (0<=k/\k<n) with
 | true=>
  rw [List.all_eq_true] at hb;rw [z4S (fun i hi=> ?_)]
  ·
   simpa using hl
  ·
   refine j3Y (hb _ (q2V hi)) ?_;have:=hp i hi;unfold j2H at this;rw [Bool.and_eq_true] at this;simpa using this.2
 | false=>
  rw [List.all_eq_false] at hb;obtain ⟨k,hk,hn⟩:=hb;obtain ⟨i,hi,e⟩:=j1J (d:=0) hk;refine x2G hi (x3A ?_);rw [e];simpa using hn
theorem j6F {zs:List It} {ks:List Int} {i:Nat} (hi:i<ks.length) (h:j1P (ks.getD i 0) zs=false):j1I zs ks=false:=by
 unfold j1I;rw [List.all_eq_false];exact ⟨_,q2V hi,by simp only [h]; exact Bool.false_ne_true⟩
theorem have_all {zs:List It} {ks:List Int} (h:∀ i,i<ks.length->j1P (ks.getD i 0) zs=true):j1I zs ks=true:=by
 unfold j1I;rw [List.all_eq_true];intro k hk;obtain ⟨i,hi,e⟩:=j1J (d:=0) hk;rw [<-e]; exact h i hi
theorem j6P {zs:List It} {ks:List Int} {col:Int} {i:Nat} (hi:i<zs.length) (h:v3M ks col (zs.getD i ([],0))=false):q4E zs ks col=false:=by
 unfold q4E;rw [List.all_eq_false];exact ⟨zs.getD i ([],0),by simp [List.getD,hi],by rw [h]; exact Bool.false_ne_true⟩
theorem fits_all {zs:List It} {ks:List Int} {col:Int} (h:∀ i,i<zs.length->v3M ks col (zs.getD i ([],0))=true):q4E zs ks col=true:=by
 unfold q4E;rw [List.all_eq_true];intro p hp;obtain ⟨i,hi,e⟩:=j1J (d:=([],0)) hp;rw [<-e]; exact h i hi
theorem z3P {x:Int} {zs:List It}:j1P x zs=true<->∀ p∈zs,0<=x/\x<(p.1.length:Int):=by
 unfold j1P;rw [List.all_eq_true];exact ⟨fun h p hp=>of_decide_eq_true (h p hp),fun h p hp=>decide_eq_true (h p hp)⟩
theorem q2A {zs:List It} {ks:List Int}:j1I zs ks=true<->∀ k∈ks,∀ p∈zs,0<=k/\k<(p.1.length:Int):=by
 unfold j1I;rw [List.all_eq_true];exact ⟨fun h k hk=>z3P.1 (h k hk),fun h k hk=>z3P.2 (h k hk)⟩
theorem j6Q {zs:List It} {ks:List Int} {wd:Int} (h:v1N ks wd=true) (col:Int):q4E zs ks col=(j1I zs ks&&j1P col zs):=by
 rw [Bool.eq_iff_iff,Bool.and_eq_true,q2A,z3P];unfold q4E v3M;rw [List.all_eq_true];simp only [Bool.and_eq_true,decide_eq_true_eq,k4P h,List.all_eq_true];exact ⟨fun g=>⟨fun k hk p hp=>(g p hp).1 k hk,fun p hp=>(g p hp).2⟩,fun g p hp=>⟨fun k hk=>g.1 k hk p hp,g.2 p hp⟩⟩
theorem k1M (r ks:List Int):(x1S r ks).length=ks.length:=by simp [x1S]
theorem x4F {r ks:List Int} {k:Nat} (hk:k<ks.length):x1S r (ks.take (k+1))=x1S r (ks.take k)++[r.getD (ks.getD k 0).toNat 0]:=by
 unfold x1S;rw [List.take_succ_eq_append_getElem hk,List.map_append];simp [List.getD,hk]
theorem q2S {r ks:List Int} (h:z1R r=true) (hk:∀ k∈ks,0<=k/\k<(r.length:Int)):(x1S r ks).all q1W=true:=by
 rw [List.all_eq_true];intro x hx;unfold x1S at hx;obtain ⟨k,hk2,rfl⟩:=List.mem_map.1 hx;have:=hk k hk2;simp only [z1R,Bool.and_eq_true,List.all_eq_true] at h;have hlt:k.toNat<r.length:=by omega
 have e:r.getD k.toNat 0=r[k.toNat]:=by simp [List.getD,hlt]
 rw [e];exact h.2 _ (List.getElem_mem hlt)
theorem j5A {xs:List Int} (h:xs.all q1W=true):q3D xs:=fun x hx=>by
 rw [List.all_eq_true] at h
 have:=h x hx
 simp [q1W] at this
 omega
theorem z6C {xs ys:List Int} (hx:xs.all q1W=true) (hy:ys.all q1W=true) (hl:xs.length=ys.length) (h:rowTx xs=rowTx ys):xs=ys:=by
 match xs,ys with
 | [],[]=>rfl
 | [],_ :: _=>simp at hl
 | _ :: _,[]=>simp at hl
 | x :: xs,y :: ys=>
  have h1:=cut_row x xs;have h2:=cut_row y ys;rw [h,h2] at h1;have h3:=all_itoa _ hx;have h4:=all_itoa _ hy;rw [h1] at h4;rw [h3] at h4;simpa using h4
end Go.Proofs.YtmjaepdplbgohaaGreatDoor
namespace Go.Proofs.YtmjaepdplbgohaaGreatDoor
open Go.RowKit
attribute [local go_sem ↓] Go.wp_at_zero Go.wp_at_succ
theorem retb {b c:Bool} (h:b=c):Ending.returned (.bool b)=Ending.returned (.bool c):=by rw [h]
theorem q1O (n wide:Int) (w:World):Calls Tryz.prog 75 #[.int .i64 n,.int .i64 wide] w fun e w'=>e = .returned (.bool (decide (0<=n/\n<wide)))/\w'=w:=by
 by_cases h1:0<=n
 ·
  by_cases h2:n<wide
  ·
   go_enter Tryz.func75,Tryz.ntmps75;go_wp2;go_ret;exact ⟨retb (by simp; omega),rfl⟩
  ·
   go_enter Tryz.func75,Tryz.ntmps75;go_wp2;go_ret;exact ⟨retb (by simp; omega),rfl⟩
 ·
  go_enter Tryz.func75,Tryz.ntmps75;go_wp2;go_ret;exact ⟨retb (by simp; omega),rfl⟩
theorem q6P (a:Option Addr) (n c:Nat) (y x:Int) (g:Nat) (w:World) (hg:g<w.heap.size) (hx:w.cell? ⟨g,0,none⟩=some (.int .i64 x)) :
  Calls Tryz.prog 126 #[.agg #[.slice a n c,.int .i64 y],.pointer (some ⟨g,0,none⟩)] w fun e w'=>e = .returned (.bool (!decide (0<=x/\x<(n:Int))))/\Below w.heap.size w w':=by
 obtain ⟨d,HD⟩:∃ d,Hid (d=decide (0<=x/\x<(n:Int))):=⟨_,rfl⟩;rw [<-HD.out];go_enter Tryz.func126,Tryz.ntmps126;go_wp2_with fail;refine (q1O x n _).mono ?_;rw [<-HD.out];rintro e w1 ⟨rfl,rfl⟩;go_wp2;go_ret;exact ⟨rfl,z1C _⟩
theorem has_miss {x:Int} {zs:List It} {k:Nat} (hk:k<zs.length) (h:decide (0<=x/\x<((zs.getD k ([],0)).1.length:Int))=false):j1P x zs=false:=by
 unfold j1P;rw [List.all_eq_false];exact ⟨zs.getD k ([],0),by simp [List.getD,hk],by simpa using h⟩
theorem has_all {x:Int} {zs:List It} (h:∀ k,k<zs.length->decide (0<=x/\x<((zs.getD k ([],0)).1.length:Int))=true):j1P x zs=true:=by
 unfold j1P;rw [List.all_eq_true];intro p hp;obtain ⟨j,hj,e⟩:=j1J (d:=([],0)) hp;rw [<-e];exact h j hj
theorem z4X (v:Value) (zs:List It) (x:Int) (g:Nat) (w:World) (h:z1I w v zs) (hg:g<w.heap.size) (hx:w.cell? ⟨g,0,none⟩=some (.int .i64 x)) :
  Calls Tryz.prog 124 #[v,.func (.func 126) #[] #[.pointer (some ⟨g,0,none⟩)]] w fun e w'=> ∃ i:Int,e = .returned (.int .i64 i)/\((i = -1/\j1P x zs=true)\/(0<=i/\j1P x zs=false))/\Below w.heap.size w w':=by
 rcases h.cases with ⟨a,cap,rfl,rfl⟩ | ⟨b,off,cap,hpos,hlim,rfl,hbw,hc⟩
 ·
  clear h;go_enter Tryz.func124,Tryz.ntmps124;go_wp2;refine wp_loop_rounds 1 ?_;rw [rounds_succ];go_wp2;go_ret;exact ⟨-1,rfl,.inl ⟨rfl,rfl⟩,Below.refl _ _⟩
 ·
  clear h;obtain ⟨n,hn⟩:∃ n,n=zs.length:=⟨_,rfl⟩;have HN:Hid (n=zs.length):=hn;rw [<-hn] at hpos hlim hc ⊢;clear hn;go_enter Tryz.func124,Tryz.ntmps124;go_wp2;go_loopw [8] (fun i wr=> ∃ k:Nat,k<=n/\i = .int .i64 k/\Hid (∀ j,j<k->decide (0<=x/\x<((zs.getD j ([],0)).1.length:Int))=true)/\Hid (Below w.heap.size w wr)) (fun i _=>n - (intOf i).toNat)
  case atStart=>exact ⟨0,Nat.zero_le _,rfl,fun j hj=>by omega,Below.refl _ _⟩
  case round=>
   obtain ⟨k,hk,rfl,HA,HW⟩:=hrel;by_cases hlt:k<n
   ·
    have HB:=HW.out;have hlt':k<zs.length:=by rw [<-HN.out]; exact hlt
    obtain ⟨rv,hrv0,hwt0,hix0⟩:=hc k hlt;have hrv:=(HB.cell (p:=⟨b,off+k*2,none⟩) hbw).trans hrv0;have hwt:=(HB.cell (p:=⟨b,off+k*2+1,none⟩) hbw).trans hwt0;have hxw:=(HB.cell (p:=⟨g,0,none⟩) hg).trans hx;have hgw:g<wr.heap.size:=Nat.lt_of_lt_of_le hg HB.size;obtain ⟨_,ra,rc,rfl,_⟩:=hix0;have hmiss:=has_miss (x:=x) hlt';obtain ⟨m,HM⟩:∃ m,Hid (m=(zs.getD k ([],0)).1.length):=⟨_,rfl⟩;obtain ⟨y,HY⟩:∃ y,Hid (y=(zs.getD k ([],0)).2):=⟨_,rfl⟩;rw [<-HM.out] at hrv hmiss;rw [<-HY.out] at hwt;clear hrv0 hwt0 hc;obtain ⟨d,HD⟩:∃ d,Hid (d=decide (0<=x/\x<(m:Int))):=⟨_,rfl⟩;rw [<-HD.out] at hmiss;go_wp2_with fail;refine (q6P ra m rc y x g _ hgw hxw).mono ?_;rw [<-HD.out];rintro e w2 ⟨rfl,hb2⟩;have HK:Hid (Below w.heap.size w w2):=z1D HB hb2;clear hb2 hrv hwt hxw HB;cases hd:d with
    | false=>
     have HF:Hid (j1P x zs=false):=hmiss hd;subst hd;clear hmiss;go_wp2;go_ret;exact ⟨k,rfl,.inr ⟨by omega,HF.out⟩,HK.out⟩
    | true=>
     have HA2:Hid (∀ j,j<k+1->decide (0<=x/\x<((zs.getD j ([],0)).1.length:Int))=true):=fun j hj=>by
      rcases Nat.lt_succ_iff_lt_or_eq.1 hj with h | h
      ·
       exact HA.out j h
      ·
       rw [h,<-HM.out,<-HD.out,hd]
     subst hd;clear hmiss;go_wp2;go_roundw
     case rel=>exact ⟨k+1,by omega,by go_num,HA2.out,HK.out⟩
     case measure=>simp [intOf]; omega
   ·
    have e:k=n:=by omega
    subst e;clear hc;go_wp2;go_ret;exact ⟨-1,rfl,.inl ⟨rfl,has_all (fun j hj=>HA.out j (by rw [HN.out]; exact hj))⟩,HW.out⟩
theorem j2N (v:Value) (zs:List It) (x:Int) (w:World) (h:z1I w v zs) :
  Calls Tryz.prog 76 #[v,.int .i64 x] w fun e w'=>e = .returned (.bool (j1P x zs))/\Below w.heap.size w w':=by
 have hA:z1I (w.alloc (.cells #[.int .i64 x] 3)) v zs:=h.below (z1C _);have hcon:=z4X v zs x w.heap.size (w.alloc (.cells #[.int .i64 x] 3)) hA (by simp) (by simp [go_sem]);clear h hA;have hcon2:Calls Tryz.prog 125 #[v,.func (.func 126) #[] #[.pointer (some ⟨w.heap.size,0,none⟩)]] (w.alloc (.cells #[.int .i64 x] 3)) fun e w'=>e = .returned (.bool (!j1P x zs))/\Below w.heap.size w w':=by
  go_enter Tryz.func125,Tryz.ntmps125;go_wp2_with fail;refine hcon.mono ?_;rintro e w1 ⟨i,rfl,hi,hb1⟩;have HK:Hid (Below w.heap.size w w1):=z1D (z1C _) hb1;clear hb1;rcases hi with ⟨rfl,hh⟩ | ⟨hi0,hh⟩
  ·
   have HH:Hid (j1P x zs=true):=hh;clear hh;go_wp2;go_ret;exact ⟨by rw [HH.out]; rfl,HK.out⟩
  ·
   have HH:Hid (j1P x zs=false):=hh;clear hh;go_wp2;go_ret;exact ⟨by rw [HH.out]; rfl,HK.out⟩
 clear hcon;obtain ⟨d,HD⟩:∃ d,Hid (d=j1P x zs):=⟨_,rfl⟩;rw [<-HD.out] at hcon2 ⊢;go_enter Tryz.func76,Tryz.ntmps76;go_wp2_with fail;refine hcon2.mono ?_;rintro e w1 ⟨rfl,hb1⟩;have HK:Hid (Below w.heap.size w w1):=hb1;clear hb1 hcon2;go_wp2;go_ret;exact ⟨by simp,HK.out⟩
theorem x3O (v u:Value) (a b:List It) (x y:Int) (w:World) (h:z1I w v a) (h2:z1I w u b) :
  Calls Tryz.prog 32 #[v,u,.int .i64 x,.int .i64 y] w fun e w'=>e = .returned (.bool (j5C a b x y))/\Below w.heap.size w w':=by
 have H1:Hid (z1I w v a):=h;have H2:Hid (z1I w u b):=h2;obtain ⟨va,vc,rfl⟩:∃ va vc,v = .slice va a.length vc:=by obtain ⟨_,va,vc,hv,_⟩:=h; exact ⟨va,vc,hv⟩
 obtain ⟨ua,uc,rfl⟩:∃ ua uc,u = .slice ua b.length uc:=by obtain ⟨_,ua,uc,hu,_⟩:=h2; exact ⟨ua,uc,hu⟩
 clear h h2;obtain ⟨c,HC⟩:∃ c,Hid (c=j5C a b x y):=⟨_,rfl⟩;rw [<-HC.out];obtain ⟨n,HN⟩:∃ n,Hid (n=a.length):=⟨_,rfl⟩;obtain ⟨m,HM⟩:∃ m,Hid (m=b.length):=⟨_,rfl⟩;rw [<-HN.out,<-HM.out];rw [<-HN.out] at H1;rw [<-HM.out] at H2;obtain ⟨d1,HD1⟩:∃ d,Hid (d=decide (0<=x/\x<6)):=⟨_,rfl⟩;obtain ⟨d2,HD2⟩:∃ d,Hid (d=decide (0<=y/\y<6)):=⟨_,rfl⟩;have HCC:Hid (c=(d1&&d2&&(decide (n=0) || decide (m=0) || (j1P x a&&j1P y b)))):=by
  show _=_;rw [HC.out,HD1.out,HD2.out,HN.out,HM.out];rfl
 clear HC;go_enter Tryz.func32,Tryz.ntmps32;go_wp2_with fail;refine (q1O x 6 _).mono ?_;rw [<-HD1.out];rintro e w1 ⟨rfl,rfl⟩;cases h1:d1 with
 | false=>
  have hc:c=false:=by rw [HCC.out,h1]; rfl
  subst h1 hc;go_wp2;go_ret;exact ⟨rfl,Below.refl _ _⟩
 | true=>
  subst h1;go_wp2_with fail;refine (q1O y 6 _).mono ?_;rw [<-HD2.out];rintro e w1 ⟨rfl,rfl⟩;cases h2:d2 with
  | false=>
   have hc:c=false:=by rw [HCC.out,h2]; rfl
   subst h2 hc;go_wp2;go_ret;exact ⟨rfl,Below.refl _ _⟩
  | true=>
   subst h2;by_cases hn:n=0
   ·
    have hc:c=true:=by rw [HCC.out]; simp [hn]
    subst hc hn;go_wp2;go_ret;exact ⟨rfl,Below.refl _ _⟩
   ·
    by_cases hm:m=0
    ·
     have hc:c=true:=by rw [HCC.out]; simp [hm]
     subst hc hm;have hnf:((n:Int)==0)=false:=by simp; omega
     go_wp2;go_ret;exact ⟨rfl,Below.refl _ _⟩
    ·
     have hcc:c=(j1P x a&&j1P y b):=by rw [HCC.out]; simp [hn,hm]
     have hnf:((n:Int)==0)=false:=by simp; omega
     have hmf:((m:Int)==0)=false:=by simp; omega
     have HCD:Hid (c=(j1P x a&&j1P y b)):=hcc;clear hcc;go_wp2_with fail;refine (j2N _ a x _ H1.out).mono ?_;rintro e w2 ⟨rfl,hb2⟩;cases h3:j1P x a with
     | false=>
      have hc:c=false:=by rw [HCD.out,h3]; rfl
      subst hc;go_wp2;go_ret;exact ⟨rfl,hb2⟩
     | true=>
      have hc:j1P y b=c:=by rw [HCD.out,h3]; rfl
      go_wp2_with fail;refine (j2N _ b y _ (H2.out.below hb2)).mono ?_;rw [hc];rintro e w3 ⟨rfl,hb3⟩;have HK:Hid (Below w1.heap.size w1 w3):=z1D hb2 hb3;clear hb2 hb3;go_wp2;go_ret;exact ⟨rfl,HK.out⟩
def v5V (w:World) (v:Value) (xs:List Int):Prop:=z1E w v xs/\∃ a c,v = .slice a xs.length c/\xs.length<=c/\c<=9223372036854775807
theorem v5V.below {w w':World} {v:Value} {xs:List Int} (h:v5V w v xs) (hb:Below w.heap.size w w'):v5V w' v xs:=⟨h.1.below hb,h.2⟩
theorem z1E.taken {w:World} {b off n cap:Nat} {xs:List Int} (h:z1E w (.slice (some ⟨b,off,none⟩) n cap) xs) {k:Nat} (hk:k<=xs.length):z1E w (.slice (some ⟨b,off,none⟩) k cap) (xs.take k):=by
 obtain ⟨hl,a,c,e,_,hc⟩:=h;simp only [Value.slice.injEq] at e;obtain ⟨rfl,_,rfl⟩:=e;have hlk:(xs.take k).length=k:=by rw [List.length_take]; omega
 refine ⟨by omega,_,_,by rw [hlk],fun h=>by simp at h,fun hne=> ?_⟩;obtain ⟨b',off',e,hb,hcell⟩:=hc (fun e=>by rw [e] at hne; simp at hne);simp only [Option.some.injEq,Addr.mk.injEq] at e;obtain ⟨rfl,rfl,_⟩:=e;refine ⟨b,off,rfl,hb,fun j hj=> ?_⟩;rw [hlk] at hj;have e2:(xs.take k).getD j 0=xs.getD j 0:=by simp [List.getD,hj]
 rw [e2];exact hcell j (by omega)
theorem z4W (v:Value) (xs:List Int) (x:Int) (w:World) (h:z1E w v xs) :
  Calls Tryz.prog 128 #[v,.int .i64 x] w fun e w'=> ∃ i:Int,e = .returned (.int .i64 i)/\((i = -1/\¬ x∈xs)\/(0<=i/\x∈xs))/\w'=w:=by
 rcases h.cases with ⟨a,cap,rfl,rfl⟩ | ⟨b,off,cap,hpos,hlim,rfl,hbw,hc⟩
 ·
  clear h;go_enter Tryz.func128,Tryz.ntmps128;go_wp2;refine wp_loop_rounds 1 ?_;rw [rounds_succ];go_wp2;go_ret;exact ⟨-1,rfl,.inl ⟨rfl,by simp⟩,rfl⟩
 ·
  clear h;obtain ⟨n,hn⟩:∃ n,n=xs.length:=⟨_,rfl⟩;have HN:Hid (n=xs.length):=hn;rw [<-hn] at hpos hlim hc ⊢;clear hn;go_enter Tryz.func128,Tryz.ntmps128;go_wp2;go_loopw [8] (fun i wr=> ∃ k:Nat,k<=n/\i = .int .i64 k/\Hid (∀ j,j<k->xs.getD j 0≠x)/\wr=w) (fun i _=>n - (intOf i).toNat)
  case atStart=>exact ⟨0,Nat.zero_le _,rfl,fun j hj=>by omega,rfl⟩
  case round=>
   obtain ⟨k,hk,rfl,HA,rfl⟩:=hrel;by_cases hlt:k<n
   ·
    have hlt':k<xs.length:=by rw [<-HN.out]; exact hlt
    have c0:=hc k hlt;have HM:Hid (xs.getD k 0∈xs):=q2V hlt';obtain ⟨y,HY⟩:∃ y,Hid (y=xs.getD k 0):=⟨_,rfl⟩;rw [<-HY.out] at c0 HM;clear hc;by_cases hxy:x=y
    ·
     have hbt:(x==y)=true:=by simp [hxy]
     go_wp2;go_ret;exact ⟨k,rfl,.inr ⟨by omega,by rw [hxy]; exact HM.out⟩,rfl⟩
    ·
     have hbf:(x==y)=false:=by simp [hxy]
     have HA2:Hid (∀ j,j<k+1->xs.getD j 0≠x):=fun j hj=>by
      rcases Nat.lt_succ_iff_lt_or_eq.1 hj with h | h
      ·
       exact HA.out j h
      ·
       rw [h,<-HY.out]; exact fun e=>hxy e.symm
     go_wp2;go_roundw
     case rel=>exact ⟨k+1,by omega,by go_num,HA2.out,by first | rfl | trivial⟩
     case measure=>simp [intOf]; omega
   ·
    obtain rfl:k=n:=by omega
    clear hc;go_wp2;go_ret;refine ⟨-1,rfl,.inl ⟨rfl,fun hm=> ?_⟩,rfl⟩;obtain ⟨j,hj,e⟩:=j1J (d:=0) hm;exact HA.out j (by rw [HN.out]; exact hj) e
theorem q3I (v:Value) (xs:List Int) (x:Int) (w:World) (h:z1E w v xs) :
  Calls Tryz.prog 81 #[v,.int .i64 x] w fun e w'=>e = .returned (.bool (decide (x∈xs)))/\w'=w:=by
 obtain ⟨d,HD⟩:∃ d,Hid (d=decide (x∈xs)):=⟨_,rfl⟩;rw [<-HD.out];go_enter Tryz.func81,Tryz.ntmps81;go_wp2_with fail;refine (z4W v xs x _ h).mono ?_;rintro e w1 ⟨i,rfl,hi,rfl⟩;clear h;rcases hi with ⟨rfl,hh⟩ | ⟨hi0,hh⟩
 ·
  have hd:d=false:=by rw [HD.out]; simp [hh]
  subst hd;go_wp2;go_ret;exact ⟨rfl,rfl⟩
 ·
  have hd:d=true:=by rw [HD.out]; simp [hh]
  subst hd;clear hh;go_wp2;go_ret;exact ⟨rfl,rfl⟩
theorem j2M (v:Value) (ks:List Int) (wd:Int) (w:World) (h:v5V w v ks) :
  Calls Tryz.prog 36 #[v,.int .i64 wd] w fun e w'=>e = .returned (.bool (v1N ks wd))/\w'=w:=by
 obtain ⟨h,a0,c0,hv,hcap,hmax⟩:=h;obtain ⟨d,HD⟩:∃ d,Hid (d=v1N ks wd):=⟨_,rfl⟩;rw [<-HD.out];by_cases hl:ks.length<6
 ·
  rcases h.cases with ⟨a,cap,rfl,rfl⟩ | ⟨b,off,cap,hpos,hlim,rfl,hbw,hc⟩
  ·
   have hd:d=true:=by rw [HD.out]; rfl
   subst hd;clear h hv;go_enter Tryz.func36,Tryz.ntmps36;go_wp2;refine wp_loop_rounds 1 ?_;rw [rounds_succ];go_wp2;go_ret;exact ⟨rfl,rfl⟩
  ·
   obtain rfl:c0=cap:=by simp at hv; exact hv.2.symm
   clear hv;have HI:Hid (z1E w (.slice (some ⟨b,off,none⟩) ks.length c0) ks):=h;obtain ⟨n,hn⟩:∃ n,n=ks.length:=⟨_,rfl⟩;have HN:Hid (n=ks.length):=hn;rw [<-hn] at hpos hlim hc hcap hl ⊢;rw [<-hn] at HI;clear hn h;go_enter Tryz.func36,Tryz.ntmps36;go_wp2;go_loopw [12] (fun i wr=> ∃ k:Nat,k<=n/\i = .int .i64 k/\Hid (∀ j,j<k->j2H ks wd j=true)/\wr=w) (fun i _=>n - (intOf i).toNat)
   case atStart=>exact ⟨0,Nat.zero_le _,rfl,fun j hj=>by omega,rfl⟩
   case round=>
    obtain ⟨k,hk,rfl,HA,rfl⟩:=hrel;by_cases hlt:k<n
    ·
     have hlt':k<ks.length:=by rw [<-HN.out]; exact hlt
     have cx:=hc k hlt;have hout:decide (0<=ks.getD k 0/\ks.getD k 0<wd)=false->d=false:=fun h=>by rw [HD.out]; exact x2G hlt' (x3A h)
     have htw:ks.getD k 0∈ks.take k->d=false:=fun h=>by rw [HD.out]; exact x2G hlt' (j3Z h)
     have hyes:decide (0<=ks.getD k 0/\ks.getD k 0<wd)=true->¬ ks.getD k 0∈ks.take k->j2H ks wd k=true:=fun h h2=>j3Y h h2;have hsub:=HI.out.taken (k:=k) (by omega);obtain ⟨x,HX⟩:∃ x,Hid (x=ks.getD k 0):=⟨_,rfl⟩;rw [<-HX.out] at cx hout htw hyes;obtain ⟨q,HQ⟩:∃ q,Hid (q=decide (0<=x/\x<wd)):=⟨_,rfl⟩;rw [<-HQ.out] at hout hyes;have hkc:(k:Int)<=(c0:Int):=by omega
     have hkc':k<=c0:=by omega
     clear hc;go_wp2_with fail;refine (q1O x wd _).mono ?_;rw [<-HQ.out];rintro e w1 ⟨rfl,rfl⟩;cases hq:q with
     | false=>
      obtain rfl:=hout hq;subst hq;clear hout htw hyes hsub;go_wp2;go_ret;exact ⟨rfl,rfl⟩
     | true=>
      subst hq;go_wp2_with fail;refine (q3I _ (ks.take k) x _ hsub).mono ?_;rintro e w1 ⟨rfl,rfl⟩;by_cases hm:x∈ks.take k
      ·
       obtain rfl:=htw hm;have hdt:decide (x∈ks.take k)=true:=by simp [hm]
       rw [hdt];clear hout htw hyes hsub hm hdt;go_wp2;go_ret;exact ⟨rfl,rfl⟩
      ·
       have hdf:decide (x∈ks.take k)=false:=by simp [hm]
       rw [hdf];have HA2:Hid (∀ j,j<k+1->j2H ks wd j=true):=fun j hj=>by
        rcases Nat.lt_succ_iff_lt_or_eq.1 hj with h | h
        ·
         exact HA.out j h
        ·
         rw [h]; exact hyes (by first | rfl | trivial) hm
       clear hout htw hyes hsub hm hdf;go_wp2;go_roundw
       case rel=>exact ⟨k+1,by omega,by go_num,HA2.out,by first | rfl | trivial⟩
       case measure=>simp [intOf]; omega
    ·
     obtain rfl:k=n:=by omega
     have hd:d=true:=by rw [HD.out,z4S (fun i hi=>HA.out i (by rw [HN.out]; exact hi)),<-HN.out]; simpa using hl
     subst hd;clear hc;go_wp2;go_ret;exact ⟨rfl,rfl⟩
 ·
  have hd:d=false:=by rw [HD.out]; exact q6W hl
  subst hd hv;obtain ⟨n,HN⟩:∃ n,Hid (n=ks.length):=⟨_,rfl⟩;rw [<-HN.out] at hl ⊢;have hl6:(6:Int)<=(n:Int):=by omega
  clear h hcap;go_enter Tryz.func36,Tryz.ntmps36;go_wp2;go_ret;exact ⟨rfl,rfl⟩
theorem x3P (v u:Value) (zs:List It) (ks:List Int) (w:World) (h:z1I w v zs) (h2:z1E w u ks) :
  Calls Tryz.prog 82 #[v,u] w fun e w'=>e = .returned (.bool (j1I zs ks))/\Below w.heap.size w w':=by
 obtain ⟨d,HD⟩:∃ d,Hid (d=j1I zs ks):=⟨_,rfl⟩;rw [<-HD.out];have HZ:Hid (z1I w v zs):=h;clear h;rcases h2.cases with ⟨a,cap,rfl,rfl⟩ | ⟨b,off,cap,hpos,hlim,rfl,hbw,hc⟩
 ·
  have hd:d=true:=by rw [HD.out]; rfl
  subst hd;clear h2;go_enter Tryz.func82,Tryz.ntmps82;go_wp2;refine wp_loop_rounds 1 ?_;rw [rounds_succ];go_wp2;go_ret;exact ⟨rfl,Below.refl _ _⟩
 ·
  clear h2;obtain ⟨n,hn⟩:∃ n,n=ks.length:=⟨_,rfl⟩;have HN:Hid (n=ks.length):=hn;rw [<-hn] at hpos hlim hc ⊢;clear hn;go_enter Tryz.func82,Tryz.ntmps82;go_wp2;go_loopw [9] (fun i wr=> ∃ k:Nat,k<=n/\i = .int .i64 k/\Hid (∀ j,j<k->j1P (ks.getD j 0) zs=true)/\Hid (Below w.heap.size w wr)) (fun i _=>n - (intOf i).toNat)
  case atStart=>exact ⟨0,Nat.zero_le _,rfl,fun j hj=>by omega,Below.refl _ _⟩
  case round=>
   obtain ⟨k,hk,rfl,HA,HW⟩:=hrel;by_cases hlt:k<n
   ·
    have hlt':k<ks.length:=by rw [<-HN.out]; exact hlt
    have HB:=HW.out;have cx:=(HB.cell (p:=⟨b,off+k,none⟩) hbw).trans (hc k hlt);have hmiss:j1P (ks.getD k 0) zs=false->d=false:=fun h=>by rw [HD.out]; exact j6F hlt' h
    obtain ⟨x,HX⟩:∃ x,Hid (x=ks.getD k 0):=⟨_,rfl⟩;rw [<-HX.out] at cx hmiss;obtain ⟨q,HQ⟩:∃ q,Hid (q=j1P x zs):=⟨_,rfl⟩;rw [<-HQ.out] at hmiss;clear hc;go_wp2_with fail;refine (j2N v zs x _ (HZ.out.below HB)).mono ?_;rw [<-HQ.out];rintro e w2 ⟨rfl,hb2⟩;have HK:Hid (Below w.heap.size w w2):=z1D HB hb2;clear hb2 cx HB;cases hq:q with
    | false=>
     obtain rfl:=hmiss hq;subst hq;clear hmiss;go_wp2;go_ret;exact ⟨rfl,HK.out⟩
    | true=>
     have HA2:Hid (∀ j,j<k+1->j1P (ks.getD j 0) zs=true):=fun j hj=>by
      rcases Nat.lt_succ_iff_lt_or_eq.1 hj with h | h
      ·
       exact HA.out j h
      ·
       rw [h,<-HX.out,<-HQ.out]; exact hq
     subst hq;clear hmiss;go_wp2;go_roundw
     case rel=>exact ⟨k+1,by omega,by go_num,HA2.out,HK.out⟩
     case measure=>simp [intOf]; omega
   ·
    obtain rfl:k=n:=by omega
    have hd:d=true:=by rw [HD.out]; exact have_all (fun i hi=>HA.out i (by rw [HN.out]; exact hi))
    subst hd;clear hc;go_wp2;go_ret;exact ⟨rfl,HW.out⟩
theorem q4I (n wd:Int) (w:World) (hwd:wd<=6):Calls Tryz.prog 105 #[.int .i64 n,.int .i64 wd] w fun e w'=>e = .returned (.bool (decide (0<=n/\n<wd)))/\w'=w:=by
 by_cases h1:0<=n
 ·
  by_cases h2:n<wd
  ·
   have h3:n<6:=by omega
   go_enter Tryz.func105,Tryz.ntmps105;go_wp2;go_ret;exact ⟨retb (by simp; omega),rfl⟩
  ·
   go_enter Tryz.func105,Tryz.ntmps105;go_wp2;go_ret;exact ⟨retb (by simp; omega),rfl⟩
 ·
  go_enter Tryz.func105,Tryz.ntmps105;go_wp2;go_ret;exact ⟨retb (by simp; omega),rfl⟩
theorem q6C {ks:List Int} {k:Nat} (hk:k<=ks.length) {x:Int} (h:x∈ks.take k):∃ j,j<k/\ks.getD j 0=x:=by
 obtain ⟨j,hj,e⟩:=List.mem_take_iff_getElem.1 h;exact ⟨j,by omega,by simp [List.getD,show j<ks.length by omega,e]⟩
theorem k5N {ks:List Int} {k j:Nat} (hk:k<=ks.length) (hj:j<k):ks.getD j 0∈ks.take k:=
 List.mem_take_iff_getElem.2 ⟨j,by omega,by simp [List.getD,show j<ks.length by omega]⟩
theorem v1H (v:Value) (ks:List Int) (wd:Int) (w:World) (h:z1E w v ks) (hwd:wd<=6) :
  Calls Tryz.prog 106 #[v,.int .i64 wd] w fun e w'=>e = .returned (.bool (v1N ks wd))/\Below w.heap.size w w':=by
 obtain ⟨d,HD⟩:∃ d,Hid (d=v1N ks wd):=⟨_,rfl⟩;rw [<-HD.out];rcases h.cases with ⟨a,cap,rfl,rfl⟩ | ⟨b,off,cap,hpos,hlim,rfl,hbw,hc⟩
 ·
  have hd:d=true:=by rw [HD.out]; rfl
  subst hd;clear h;go_enter Tryz.func106,Tryz.ntmps106;go_wp2;refine wp_loop_rounds 1 ?_;rw [rounds_succ];go_wp2;go_ret;exact ⟨rfl,Below.refl _ _⟩
 ·
  clear h;obtain ⟨n,hn⟩:∃ n,n=ks.length:=⟨_,rfl⟩;have HN:Hid (n=ks.length):=hn;rw [<-hn] at hpos hlim hc ⊢;clear hn;go_enter Tryz.func106,Tryz.ntmps106;go_wp2;go_loopw [5] (fun i wr=> ∃ k:Nat,k<=n/\i = .int .i64 k/\Hid (∀ j,j<k->j2H ks wd j=true)/\Hid (Below w.heap.size w wr)) (fun i _=>n - (intOf i).toNat)
  case atStart=>exact ⟨0,Nat.zero_le _,rfl,fun j hj=>by omega,Below.refl _ _⟩
  case round=>
   obtain ⟨k,hk,rfl,HA,HW⟩:=hrel;by_cases hlt:k<n
   ·
    have hlt':k<ks.length:=by rw [<-HN.out]; exact hlt
    have HB:=HW.out;have cx:=(HB.cell (p:=⟨b,off+k,none⟩) hbw).trans (hc k hlt);have hout:decide (0<=ks.getD k 0/\ks.getD k 0<wd)=false->d=false:=fun h=>by rw [HD.out]; exact x2G hlt' (x3A h)
    have htw:∀ j,j<k->ks.getD j 0=ks.getD k 0->d=false:=fun j hj e=>by rw [HD.out]; exact x2G hlt' (j3Z (by rw [<-e]; exact k5N (by omega) hj))
    have hyes:decide (0<=ks.getD k 0/\ks.getD k 0<wd)=true->(∀ j,j<k->ks.getD j 0≠ks.getD k 0)->j2H ks wd k=true:=fun h h2=>j3Y h (fun hm=>by
     obtain ⟨j,hj,e⟩:=q6C (by omega) hm
     exact h2 j hj e)
    obtain ⟨x,HX⟩:∃ x,Hid (x=ks.getD k 0):=⟨_,rfl⟩;rw [<-HX.out] at cx hout htw hyes;obtain ⟨q,HQ⟩:∃ q,Hid (q=decide (0<=x/\x<wd)):=⟨_,rfl⟩;rw [<-HQ.out] at hout hyes;obtain ⟨wo,hwo⟩:∃ wo,wo=wr:=⟨_,rfl⟩;have HBO:Hid (Below w.heap.size w wo):=by rw [hwo]; exact HB
    go_wp2_with fail;refine (q4I x wd _ hwd).mono ?_;rw [<-HQ.out];rintro e w1 ⟨rfl,rfl⟩;cases hq:q with
    | false=>
     obtain rfl:=hout hq;subst hq;clear hout htw hyes hc;go_wp2;go_ret;exact ⟨rfl,HB⟩
    | true=>
     subst hq;rw [<-hwo];clear hwo cx HB HW;go_wp2;go_loopw [6] (fun i wr=> ∃ j:Nat,j<=k/\i = .int .i64 j/\Hid (∀ t,t<j->ks.getD t 0≠x)/\Hid (Below w.heap.size w wr)) (fun i _=>k - (intOf i).toNat)
     case atStart=>exact ⟨0,Nat.zero_le _,rfl,fun j hj=>by omega,HBO.out⟩
     case round=>
      obtain ⟨j,hj,rfl,HT,HW2⟩:=hrel;clear HBO;by_cases hjk:j<k
      ·
       have hjI:(j:Int)<(k:Int):=by omega
       have HB2:=HW2.out;have cx:=(HB2.cell (p:=⟨b,off+k,none⟩) hbw).trans (hc k hlt);have cy:=(HB2.cell (p:=⟨b,off+j,none⟩) hbw).trans (hc j (by omega));rw [<-HX.out] at cx;have htj:=htw j hjk;obtain ⟨y,HY⟩:∃ y,Hid (y=ks.getD j 0):=⟨_,rfl⟩;rw [<-HY.out] at cy htj;have hjn:j<n:=by omega
       by_cases hxy:y=x
       ·
        obtain rfl:=htj hxy;have hbt:(y==x)=true:=by simp [hxy]
        clear hout htw hyes hc htj;go_wp2;go_quiet (fail)
        go_wp2;go_ret;exact ⟨rfl,below_drewN HW2.out _⟩
       ·
        have hbf:(y==x)=false:=by simp [hxy]
        have HT2:Hid (∀ t,t<j+1->ks.getD t 0≠x):=fun t ht=>by
         rcases Nat.lt_succ_iff_lt_or_eq.1 ht with h | h
         ·
          exact HT.out t h
         ·
          rw [h,<-HY.out]; exact hxy
        clear hout htw hyes hc htj;go_wp2;go_quiet (fail)
        go_wp2;go_roundw
        case rel=>exact ⟨j+1,by omega,by go_num,HT2.out,below_drewN HW2.out _⟩
        case measure=>simp [intOf]; omega
      ·
       obtain rfl:j=k:=by omega
       have HA2:Hid (∀ t,t<j+1->j2H ks wd t=true):=fun t ht=>by
        rcases Nat.lt_succ_iff_lt_or_eq.1 ht with h | h
        ·
         exact HA.out t h
        ·
         rw [h]; exact hyes (by first | rfl | trivial) HT.out
       clear hout htw hyes hc;go_wp2;go_roundw
       case rel=>exact ⟨j+1,by omega,by go_num,HA2.out,HW2.out⟩
       case measure=>simp [intOf]; omega
   ·
    obtain rfl:k=n:=by omega
    have HDD:Hid (d=decide (k<6)):=by show _=_; rw [HD.out,z4S (fun i hi=>HA.out i (by rw [HN.out]; exact hi)),<-HN.out]
    clear hc;by_cases h6:k<6
    ·
     have h6I:(k:Int)<6:=by omega
     have hd:d=true:=by rw [HDD.out]; simpa using h6
     subst hd;go_wp2;go_ret;exact ⟨rfl,HW.out⟩
    ·
     have h6I:¬ (k:Int)<6:=by omega
     have hd:d=false:=by rw [HDD.out]; simpa using h6
     subst hd;go_wp2;go_ret;exact ⟨rfl,HW.out⟩
theorem k3A (v u:Value) (zs:List It) (ks:List Int) (col:Int) (w:World) (h:z1I w v zs) (h2:z1E w u ks) (hw:∀ k,k<zs.length->(zs.getD k ([],0)).1.length<=6) :
  Calls Tryz.prog 114 #[v,u,.int .i64 col] w fun e w'=>e = .returned (.bool (q4E zs ks col))/\Below w.heap.size w w':=by
 obtain ⟨d,HD⟩:∃ d,Hid (d=q4E zs ks col):=⟨_,rfl⟩;rw [<-HD.out];have HK2:Hid (z1E w u ks):=h2;obtain ⟨ua,un,uc,rfl⟩:=h2.shape;clear h2;rcases h.cases with ⟨a,cap,rfl,rfl⟩ | ⟨b,off,cap,hpos,hlim,rfl,hbw,hc⟩
 ·
  have hd:d=true:=by rw [HD.out]; rfl
  subst hd;clear h;go_enter Tryz.func114,Tryz.ntmps114;go_wp2;refine wp_loop_rounds 1 ?_;rw [rounds_succ];go_wp2;go_ret;exact ⟨rfl,Below.refl _ _⟩
 ·
  clear h;obtain ⟨n,hn⟩:∃ n,n=zs.length:=⟨_,rfl⟩;have HN:Hid (n=zs.length):=hn;rw [<-hn] at hpos hlim hc hw ⊢;clear hn;go_enter Tryz.func114,Tryz.ntmps114;go_wp2;go_loopw [7] (fun i wr=> ∃ k:Nat,k<=n/\i = .int .i64 k/\Hid (∀ j,j<k->v3M ks col (zs.getD j ([],0))=true)/\Hid (Below w.heap.size w wr)) (fun i _=>n - (intOf i).toNat)
  case atStart=>exact ⟨0,Nat.zero_le _,rfl,fun j hj=>by omega,Below.refl _ _⟩
  case round=>
   obtain ⟨k,hk,rfl,HA,HW⟩:=hrel;by_cases hlt:k<n
   ·
    have hlt':k<zs.length:=by rw [<-HN.out]; exact hlt
    have HB:=HW.out;obtain ⟨rv,hrv0,_,hix0⟩:=hc k hlt;have hm6:=hw k hlt;have hmiss:v3M ks col (zs.getD k ([],0))=false->d=false:=fun h=>by rw [HD.out]; exact j6P hlt' h
    obtain ⟨_,ra,rc,rfl,_⟩:=hix0;have hrv:=(HB.cell (p:=⟨b,off+k*2,none⟩) hbw).trans hrv0;have hfit:v3M ks col (zs.getD k ([],0))=(v1N ks ((zs.getD k ([],0)).1.length:Int)&&decide (0<=col/\col<((zs.getD k ([],0)).1.length:Int))):=rfl;have HFT:Hid (v3M ks col (zs.getD k ([],0))=true->∀ j,j<k+1->v3M ks col (zs.getD j ([],0))=true):=fun h0 j hj=>by
     rcases Nat.lt_succ_iff_lt_or_eq.1 hj with h | h
     ·
      exact HA.out j h
     ·
      rw [h]; exact h0
    rw [hfit] at hmiss HFT;obtain ⟨m,HM⟩:∃ m,Hid (m=(zs.getD k ([],0)).1.length):=⟨_,rfl⟩;rw [<-HM.out] at hrv hmiss HFT hm6;obtain ⟨q1,HQ1⟩:∃ q,Hid (q=v1N ks (m:Int)):=⟨_,rfl⟩;obtain ⟨q2,HQ2⟩:∃ q,Hid (q=decide (0<=col/\col<(m:Int))):=⟨_,rfl⟩;rw [<-HQ1.out,<-HQ2.out] at hmiss HFT;have hm6I:(m:Int)<=6:=by omega
    have hbr:b<wr.heap.size:=Nat.lt_of_lt_of_le hbw HB.size;clear hc hrv0 hfit hw;go_wp2_with fail;refine (v1H _ ks (m:Int) _ (HK2.out.below HB) hm6I).mono ?_;rw [<-HQ1.out];rintro e w2 ⟨rfl,hb2⟩;have hrv2:=(hb2.cell (p:=⟨b,off+k*2,none⟩) hbr).trans hrv;have hk2:=z1D HB hb2;clear hrv HB hb2;cases hq1:q1 with
    | false=>
     obtain rfl:=hmiss (by rw [hq1]; rfl);subst hq1;clear hmiss HFT hrv2;go_wp2;go_ret;exact ⟨rfl,hk2⟩
    | true=>
     subst hq1;go_wp2_with fail;refine (q4I col (m:Int) _ hm6I).mono ?_;rw [<-HQ2.out];rintro e w3 ⟨rfl,rfl⟩;cases hq2:q2 with
     | false=>
      obtain rfl:=hmiss (by rw [hq2]; rfl);subst hq2;clear hmiss HFT hrv2;go_wp2;go_ret;exact ⟨rfl,hk2⟩
     | true=>
      have HA2:Hid (∀ j,j<k+1->v3M ks col (zs.getD j ([],0))=true):=HFT.out (by rw [hq2]; rfl);subst hq2;clear hmiss HFT hrv2;go_wp2;go_roundw
      case rel=>exact ⟨k+1,by omega,by go_num,HA2.out,hk2⟩
      case measure=>simp [intOf]; omega
   ·
    obtain rfl:k=n:=by omega
    have hd:d=true:=by rw [HD.out]; exact fits_all (fun i hi=>HA.out i (by rw [HN.out]; exact hi))
    subst hd;clear hc hw;go_wp2;go_ret;exact ⟨rfl,HW.out⟩
end Go.Proofs.YtmjaepdplbgohaaGreatDoor
namespace Go.Proofs.YtmjaepdplbgohaaGreatDoor
def cntG:List It->Int
 | []=>0
 | p :: g=>p.2+cntG g
def v2F (col:Nat):List It->Int
 | []=>0
 | p :: g=>p.2*p.1.getD col 0+v2F col g
def x1D (col:Nat):List It->Int
 | []=>0
 | p :: g=>g.foldl (fun n q=>min n (q.1.getD col 0)) (p.1.getD col 0)
def k1A (col:Nat):List It->Int
 | []=>0
 | p :: g=>g.foldl (fun n q=>max n (q.1.getD col 0)) (p.1.getD col 0)
def aggB (agg:Int):Bool:=decide (0<=agg/\agg<=3)
def x4Z (agg:Int) (col:Nat) (g:List It):Int:=if agg=0 then cntG g else if agg=1 then v2F col g else if agg=2 then x1D col g else k1A col g
theorem cntG_app:∀ (a b:List It),cntG (a++b)=cntG a+cntG b
 | [],b=>by simp [cntG]
 | p :: a,b=>by rw [List.cons_append,cntG,cntG,cntG_app a]; omega
theorem z5V (col:Nat):∀ (a b:List It),v2F col (a++b)=v2F col a+v2F col b
 | [],b=>by simp [v2F]
 | p :: a,b=>by rw [List.cons_append,v2F,v2F,z5V col a]; omega
theorem k2D {g:List It} {k:Nat} (hk:k<g.length):g.take (k+1)=g.take k++[g.getD k ([],0)]:=by
 rw [List.take_succ_eq_append_getElem hk];simp [List.getD,hk]
theorem q4J {g:List It} {k:Nat} (hk:k<g.length):cntG (g.take (k+1))=cntG (g.take k)+(g.getD k ([],0)).2:=by
 rw [k2D hk,cntG_app]; simp [cntG]
theorem k3W {col:Nat} {g:List It} {k:Nat} (hk:k<g.length):v2F col (g.take (k+1))=v2F col (g.take k)+(g.getD k ([],0)).2*(g.getD k ([],0)).1.getD col 0:=by
 rw [k2D hk,z5V]; simp [v2F]
theorem j3Q {col:Nat} {g:List It} (hk:0<g.length):x1D col (g.take 1)=(g.getD 0 ([],0)).1.getD col 0:=by
 match g with
 | p :: g=>simp [x1D]
theorem z4M {col:Nat} {g:List It} (hk:0<g.length):k1A col (g.take 1)=(g.getD 0 ([],0)).1.getD col 0:=by
 match g with
 | p :: g=>simp [k1A]
theorem v3Z {col:Nat} {g:List It} {k:Nat} (hk:k<g.length) (h0:0<k):x1D col (g.take (k+1))=min (x1D col (g.take k)) ((g.getD k ([],0)).1.getD col 0):=by
 rw [k2D hk];match g,k with
 | p :: g,k+1=>simp [x1D,List.foldl_append]
theorem j4S {col:Nat} {g:List It} {k:Nat} (hk:k<g.length) (h0:0<k):k1A col (g.take (k+1))=max (k1A col (g.take k)) ((g.getD k ([],0)).1.getD col 0):=by
 rw [k2D hk];match g,k with
 | p :: g,k+1=>simp [k1A,List.foldl_append]
def q3Y (g:List It) (col:Nat):Prop:=g.length<=100/\∀ p∈g,(-10000<=p.2/\p.2<=10000)/\col<p.1.length/\(-1000000000<=p.1.getD col 0/\p.1.getD col 0<=1000000000)
theorem q3Y.at {g:List It} {col:Nat} (h:q3Y g col) {k:Nat} (hk:k<g.length):(-10000<=(g.getD k ([],0)).2/\(g.getD k ([],0)).2<=10000)/\col<(g.getD k ([],0)).1.length/\(-1000000000<=(g.getD k ([],0)).1.getD col 0/\(g.getD k ([],0)).1.getD col 0<=1000000000):=
 h.2 _ (by simp [List.getD,hk])
theorem j6U {g:List It} {col:Nat} (h:q3Y g col):∀ k,k<=g.length->-(10000*(k:Int))<=cntG (g.take k)/\cntG (g.take k)<=10000*(k:Int)
 | 0,_=>by simp [cntG]
 | k+1,hk=>by
  have ih:=j6U h k (by omega)
  have h1:=(h.at (show k<g.length by omega)).1
  rw [q4J (show k<g.length by omega)]
  omega
theorem k5O {g:List It} {col:Nat} (h:q3Y g col):∀ k,k<=g.length->-(10000000000000*(k:Int))<=v2F col (g.take k)/\v2F col (g.take k)<=10000000000000*(k:Int)
 | 0,_=>by simp [v2F]
 | k+1,hk=>by
  have ih:=k5O h k (by omega)
  have h1:=h.at (show k<g.length by omega)
  have h2:=z3W (A:=10000) (B:=1000000000) h1.1 h1.2.2 (by omega) (by omega)
  rw [k3W (show k<g.length by omega)]
  omega
end Go.Proofs.YtmjaepdplbgohaaGreatDoor
namespace Go.Proofs.YtmjaepdplbgohaaGreatDoor
open Go.RowKit
attribute [local go_sem ↓] Go.wp_at_zero Go.wp_at_succ
theorem reti {a b:Int} (h:a=b):Ending.returned (.int .i64 a)=Ending.returned (.int .i64 b):=by rw [h]
theorem upto_one {col:Nat} {g:List It} {k:Nat} (hk:k<g.length):x1D col (g.take (max (k+1) 1))=min (x1D col (g.take (max k 1))) ((g.getD k ([],0)).1.getD col 0):=by
 rcases Nat.eq_zero_or_pos k with h | h
 ·
  subst h;show x1D col (g.take 1)=min (x1D col (g.take 1)) _;rw [j3Q hk]; omega
 ·
  rw [show max (k+1) 1=k+1 by omega,show max k 1=k by omega,v3Z hk h]
theorem k5J {col:Nat} {g:List It} {k:Nat} (hk:k<g.length):k1A col (g.take (max (k+1) 1))=max (k1A col (g.take (max k 1))) ((g.getD k ([],0)).1.getD col 0):=by
 rcases Nat.eq_zero_or_pos k with h | h
 ·
  subst h;show k1A col (g.take 1)=max (k1A col (g.take 1)) _;rw [z4M hk]; omega
 ·
  rw [show max (k+1) 1=k+1 by omega,show max k 1=k by omega,j4S hk h]
theorem q2I {w:World} {rv:Value} {x:List Int} (h:z1E w rv x) {col:Nat} (hc:col<x.length):∃ b off cap,rv = .slice (some ⟨b,off,none⟩) x.length cap/\b<w.heap.size/\w.cell? ⟨b,off+col,none⟩=some (.int .i64 (x.getD col 0)):=by
 rcases h.cases with ⟨a,cap,rfl,rfl⟩ | ⟨b,off,cap,_,_,rfl,hb,hcell⟩
 ·
  simp at hc
 ·
  exact ⟨b,off,cap,rfl,hb,hcell col hc⟩
theorem j6S (u rc:Value) (g:List It) (col:Nat) (w:World) (h:z1I w u g) (hf:q3Y g col) (hpos:0<g.length) (hrc:rc = .agg #[]) :
  Calls Tryz.prog 196 #[rc,u,.int .i64 col] w fun e w'=>e = .returned (.int .i64 (cntG g))/\Below w.heap.size w w':=by
 subst hrc;rcases h.cases with ⟨a,cap,rfl,rfl⟩ | ⟨b,off,cap,_,hlim,rfl,hbw,hc⟩
 ·
  simp at hpos
 ·
  clear h;obtain ⟨n,hn⟩:∃ n,n=g.length:=⟨_,rfl⟩;have HN:Hid (n=g.length):=hn;have hn100:n<=100:=by rw [hn]; exact hf.1
  rw [<-hn] at hpos hlim hc ⊢;have HF:Hid (q3Y g col):=hf;clear hn hf;go_enter Tryz.func196,Tryz.ntmps196;go_wp2;go_loopw [7,12] (fun s i wr=> ∃ k:Nat,k<=n/\i = .int .i64 k/\s = .int .i64 (cntG (g.take k))/\Hid (Below w.heap.size w wr)) (fun _ i _=>n - (intOf i).toNat)
  case atStart=>exact ⟨0,Nat.zero_le _,rfl,by simp [cntG],z1C _⟩
  case round=>
   obtain ⟨k,hk,rfl,rfl,HW⟩:=hrel;by_cases hlt:k<n
   ·
    have hlt':k<g.length:=by rw [<-HN.out]; exact hlt
    have HB:=HW.out;obtain ⟨rv,hrv0,hwt0,hix0⟩:=hc k hlt;obtain ⟨b1,o1,cp1,rfl,hb1,hx0⟩:=q2I hix0 (HF.out.at hlt').2.1;have hrv:=(HB.cell (p:=⟨b,off+k*2,none⟩) hbw).trans hrv0;have hwt:=(HB.cell (p:=⟨b,off+k*2+1,none⟩) hbw).trans hwt0;have hx:=(HB.cell (p:=⟨b1,o1+col,none⟩) hb1).trans hx0;have hb1r:b1<wr.heap.size:=Nat.lt_of_lt_of_le hb1 HB.size;have hfk:=HF.out.at hlt';have HS:Hid (cntG (g.take (k+1))=cntG (g.take k)+(g.getD k ([],0)).2):=q4J hlt';have hin:=j6U HF.out k (by omega);obtain ⟨m,HM⟩:∃ m,Hid (m=(g.getD k ([],0)).1.length):=⟨_,rfl⟩;obtain ⟨y,HY⟩:∃ y,Hid (y=(g.getD k ([],0)).2):=⟨_,rfl⟩;obtain ⟨z,HZ⟩:∃ z,Hid (z=(g.getD k ([],0)).1.getD col 0):=⟨_,rfl⟩;obtain ⟨s0,HS0⟩:∃ s,Hid (s=cntG (g.take k)):=⟨_,rfl⟩;rw [<-HM.out] at hrv hfk;rw [<-HY.out] at hwt hfk HS;rw [<-HZ.out] at hx hfk;rw [<-HS0.out] at HS hin ⊢;clear hrv0 hwt0 hix0 hx0 hc;have hwrap:IntKind.i64.wrap (s0+y)=s0+y:=by rw [IntKind.wrap_i64]; omega
    go_wp2;go_roundw
    case rel=>exact ⟨k+1,by omega,by go_num,by rw [HS.out],z1D HW.out (z1C _)⟩
    case measure=>simp [intOf]; omega
   ·
    obtain rfl:k=n:=by omega
    have HE:Hid (cntG (g.take k)=cntG g):=by
     show _=_;rw [HN.out,List.take_length]
    obtain ⟨s0,HS0⟩:∃ s,Hid (s=cntG (g.take k)):=⟨_,rfl⟩;rw [<-HS0.out] at HE ⊢;clear hc;go_wp2;go_ret;exact ⟨reti HE.out,HW.out⟩
theorem sum_any (u rc:Value) (g:List It) (col:Nat) (w:World) (h:z1I w u g) (hf:q3Y g col) (hpos:0<g.length) (hrc:rc = .agg #[]) :
  Calls Tryz.prog 197 #[rc,u,.int .i64 col] w fun e w'=>e = .returned (.int .i64 (v2F col g))/\Below w.heap.size w w':=by
 subst hrc;rcases h.cases with ⟨a,cap,rfl,rfl⟩ | ⟨b,off,cap,_,hlim,rfl,hbw,hc⟩
 ·
  simp at hpos
 ·
  clear h;obtain ⟨n,hn⟩:∃ n,n=g.length:=⟨_,rfl⟩;have HN:Hid (n=g.length):=hn;have hn100:n<=100:=by rw [hn]; exact hf.1
  rw [<-hn] at hpos hlim hc ⊢;have HF:Hid (q3Y g col):=hf;clear hn hf;go_enter Tryz.func197,Tryz.ntmps197;go_wp2;go_loopw [7,12] (fun s i wr=> ∃ k:Nat,k<=n/\i = .int .i64 k/\s = .int .i64 (v2F col (g.take k))/\Hid (Below w.heap.size w wr)) (fun _ i _=>n - (intOf i).toNat)
  case atStart=>exact ⟨0,Nat.zero_le _,rfl,by simp [v2F],z1C _⟩
  case round=>
   obtain ⟨k,hk,rfl,rfl,HW⟩:=hrel;by_cases hlt:k<n
   ·
    have hlt':k<g.length:=by rw [<-HN.out]; exact hlt
    have HB:=HW.out;obtain ⟨rv,hrv0,hwt0,hix0⟩:=hc k hlt;obtain ⟨b1,o1,cp1,rfl,hb1,hx0⟩:=q2I hix0 (HF.out.at hlt').2.1;have hrv:=(HB.cell (p:=⟨b,off+k*2,none⟩) hbw).trans hrv0;have hwt:=(HB.cell (p:=⟨b,off+k*2+1,none⟩) hbw).trans hwt0;have hx:=(HB.cell (p:=⟨b1,o1+col,none⟩) hb1).trans hx0;have hb1r:b1<wr.heap.size:=Nat.lt_of_lt_of_le hb1 HB.size;have hfk:=HF.out.at hlt';have HS:Hid (v2F col (g.take (k+1))=v2F col (g.take k)+(g.getD k ([],0)).2*(g.getD k ([],0)).1.getD col 0):=k3W hlt';have hin:=k5O HF.out k (by omega);obtain ⟨m,HM⟩:∃ m,Hid (m=(g.getD k ([],0)).1.length):=⟨_,rfl⟩;obtain ⟨y,HY⟩:∃ y,Hid (y=(g.getD k ([],0)).2):=⟨_,rfl⟩;obtain ⟨z,HZ⟩:∃ z,Hid (z=(g.getD k ([],0)).1.getD col 0):=⟨_,rfl⟩;obtain ⟨s0,HS0⟩:∃ s,Hid (s=v2F col (g.take k)):=⟨_,rfl⟩;rw [<-HM.out] at hrv hfk;rw [<-HY.out] at hwt hfk HS;rw [<-HZ.out] at hx hfk HS;rw [<-HS0.out] at HS hin ⊢;clear hrv0 hwt0 hix0 hx0 hc;have hml:=z3W (A:=1000000000) (B:=10000) hfk.2.2 hfk.1 (by omega) (by omega);have hcm:z*y=y*z:=Int.mul_comm _ _;have hwrap1:IntKind.i64.wrap (z*y)=z*y:=by rw [IntKind.wrap_i64]; omega
    have hwrap:IntKind.i64.wrap (s0+z*y)=s0+z*y:=by rw [IntKind.wrap_i64]; omega
    rw [<-hcm] at HS;have hcl:col<m:=hfk.2.1;clear hcm hml;go_wp2;go_quiet (fail)
    go_wp2;go_roundw
    case rel=>exact ⟨k+1,by omega,by go_num,by rw [HS.out],below_drewN (z1D HW.out (z1C _)) _⟩
    case measure=>simp [intOf]; omega
   ·
    obtain rfl:k=n:=by omega
    have HE:Hid (v2F col (g.take k)=v2F col g):=by
     show _=_;rw [HN.out,List.take_length]
    obtain ⟨s0,HS0⟩:∃ s,Hid (s=v2F col (g.take k)):=⟨_,rfl⟩;rw [<-HS0.out] at HE ⊢;clear hc;go_wp2;go_ret;exact ⟨reti HE.out,HW.out⟩
theorem q6O (u rc:Value) (g:List It) (col:Nat) (w:World) (h:z1I w u g) (hf:q3Y g col) (hpos:0<g.length) (hrc:rc = .agg #[]) :
  Calls Tryz.prog 198 #[rc,u,.int .i64 col] w fun e w'=>e = .returned (.int .i64 (x1D col g))/\Below w.heap.size w w':=by
 subst hrc;rcases h.cases with ⟨a,cap,rfl,rfl⟩ | ⟨b,off,cap,_,hlim,rfl,hbw,hc⟩
 ·
  simp at hpos
 ·
  clear h;obtain ⟨n,hn⟩:∃ n,n=g.length:=⟨_,rfl⟩;have HN:Hid (n=g.length):=hn;have hn100:n<=100:=by rw [hn]; exact hf.1
  rw [<-hn] at hpos hlim hc ⊢;have HF:Hid (q3Y g col):=hf;clear hn hf;obtain ⟨rv0,d0,_,dix⟩:=hc 0 hpos;have hp0:0<g.length:=by rw [<-HN.out]; exact hpos
  obtain ⟨b0,o0,cp0,rfl,hb0,d1⟩:=q2I dix (HF.out.at hp0).2.1;have HV0:Hid (x1D col (g.take (max 0 1))=(g.getD 0 ([],0)).1.getD col 0):=j3Q hp0;obtain ⟨m0,HM0⟩:∃ m,Hid (m=(g.getD 0 ([],0)).1.length):=⟨_,rfl⟩;have hcm0:col<m0:=by rw [HM0.out]; exact (HF.out.at hp0).2.1
  obtain ⟨v0,HV⟩:∃ v,Hid (v=(g.getD 0 ([],0)).1.getD col 0):=⟨_,rfl⟩;rw [<-HM0.out] at d0;rw [<-HV.out] at d1 HV0;simp only [Nat.zero_mul,Nat.add_zero] at d0;have hnI:(0:Int)<(n:Int):=by omega
  have hbx:Below w.heap.size w (w.alloc (.cells #[] 116)):=z1C _;go_enter Tryz.func198,Tryz.ntmps198;go_wp2;go_loopw [7,19] (fun s i wr=> ∃ k:Nat,k<=n/\i = .int .i64 k/\s = .int .i64 (x1D col (g.take (max k 1)))/\Hid (Below w.heap.size w wr)) (fun _ i _=>n - (intOf i).toNat)
  case atStart=>exact ⟨0,Nat.zero_le _,rfl,by rw [HV0.out],z1C _⟩
  case round=>
   obtain ⟨k,hk,rfl,rfl,HW⟩:=hrel;by_cases hlt:k<n
   ·
    have hlt':k<g.length:=by rw [<-HN.out]; exact hlt
    have HB:=HW.out;obtain ⟨rv,hrv0,hwt0,hix0⟩:=hc k hlt;obtain ⟨b1,o1,cp1,rfl,hb1,hx0⟩:=q2I hix0 (HF.out.at hlt').2.1;have hrv:=(HB.cell (p:=⟨b,off+k*2,none⟩) hbw).trans hrv0;have hwt:=(HB.cell (p:=⟨b,off+k*2+1,none⟩) hbw).trans hwt0;have hx:=(HB.cell (p:=⟨b1,o1+col,none⟩) hb1).trans hx0;have hb1r:b1<wr.heap.size:=Nat.lt_of_lt_of_le hb1 HB.size;have hfk:=HF.out.at hlt';have HS:Hid (x1D col (g.take (max (k+1) 1))=min (x1D col (g.take (max k 1))) ((g.getD k ([],0)).1.getD col 0)):=upto_one hlt';have hin:=hfk;obtain ⟨m,HM⟩:∃ m,Hid (m=(g.getD k ([],0)).1.length):=⟨_,rfl⟩;obtain ⟨y,HY⟩:∃ y,Hid (y=(g.getD k ([],0)).2):=⟨_,rfl⟩;obtain ⟨z,HZ⟩:∃ z,Hid (z=(g.getD k ([],0)).1.getD col 0):=⟨_,rfl⟩;obtain ⟨s0,HS0⟩:∃ s,Hid (s=x1D col (g.take (max k 1))):=⟨_,rfl⟩;rw [<-HM.out] at hrv hfk;rw [<-HY.out] at hwt hfk;rw [<-HZ.out] at hx hfk HS;rw [<-HS0.out] at HS ⊢;clear hrv0 hwt0 hix0 hx0 hc;have hcl:col<m:=hfk.2.1;go_wp2;go_roundw
    case rel=>exact ⟨k+1,by omega,by go_num,by rw [HS.out]; first | rfl | (simp; omega) | skip,z1D HW.out (z1C _)⟩
    case measure=>simp [intOf]; omega
   ·
    obtain rfl:k=n:=by omega
    have HE:Hid (x1D col (g.take (max k 1))=x1D col g):=by
     show _=_;rw [show max k 1=k by omega,HN.out,List.take_length]
    obtain ⟨s0,HS0⟩:∃ s,Hid (s=x1D col (g.take (max k 1))):=⟨_,rfl⟩;rw [<-HS0.out] at HE ⊢;clear hc;go_wp2;go_ret;exact ⟨reti HE.out,HW.out⟩
theorem most_any (u rc:Value) (g:List It) (col:Nat) (w:World) (h:z1I w u g) (hf:q3Y g col) (hpos:0<g.length) (hrc:rc = .agg #[]) :
  Calls Tryz.prog 199 #[rc,u,.int .i64 col] w fun e w'=>e = .returned (.int .i64 (k1A col g))/\Below w.heap.size w w':=by
 subst hrc;rcases h.cases with ⟨a,cap,rfl,rfl⟩ | ⟨b,off,cap,_,hlim,rfl,hbw,hc⟩
 ·
  simp at hpos
 ·
  clear h;obtain ⟨n,hn⟩:∃ n,n=g.length:=⟨_,rfl⟩;have HN:Hid (n=g.length):=hn;have hn100:n<=100:=by rw [hn]; exact hf.1
  rw [<-hn] at hpos hlim hc ⊢;have HF:Hid (q3Y g col):=hf;clear hn hf;obtain ⟨rv0,d0,_,dix⟩:=hc 0 hpos;have hp0:0<g.length:=by rw [<-HN.out]; exact hpos
  obtain ⟨b0,o0,cp0,rfl,hb0,d1⟩:=q2I dix (HF.out.at hp0).2.1;have HV0:Hid (k1A col (g.take (max 0 1))=(g.getD 0 ([],0)).1.getD col 0):=z4M hp0;obtain ⟨m0,HM0⟩:∃ m,Hid (m=(g.getD 0 ([],0)).1.length):=⟨_,rfl⟩;have hcm0:col<m0:=by rw [HM0.out]; exact (HF.out.at hp0).2.1
  obtain ⟨v0,HV⟩:∃ v,Hid (v=(g.getD 0 ([],0)).1.getD col 0):=⟨_,rfl⟩;rw [<-HM0.out] at d0;rw [<-HV.out] at d1 HV0;simp only [Nat.zero_mul,Nat.add_zero] at d0;have hnI:(0:Int)<(n:Int):=by omega
  have hbx:Below w.heap.size w (w.alloc (.cells #[] 117)):=z1C _;go_enter Tryz.func199,Tryz.ntmps199;go_wp2;go_loopw [7,19] (fun s i wr=> ∃ k:Nat,k<=n/\i = .int .i64 k/\s = .int .i64 (k1A col (g.take (max k 1)))/\Hid (Below w.heap.size w wr)) (fun _ i _=>n - (intOf i).toNat)
  case atStart=>exact ⟨0,Nat.zero_le _,rfl,by rw [HV0.out],z1C _⟩
  case round=>
   obtain ⟨k,hk,rfl,rfl,HW⟩:=hrel;by_cases hlt:k<n
   ·
    have hlt':k<g.length:=by rw [<-HN.out]; exact hlt
    have HB:=HW.out;obtain ⟨rv,hrv0,hwt0,hix0⟩:=hc k hlt;obtain ⟨b1,o1,cp1,rfl,hb1,hx0⟩:=q2I hix0 (HF.out.at hlt').2.1;have hrv:=(HB.cell (p:=⟨b,off+k*2,none⟩) hbw).trans hrv0;have hwt:=(HB.cell (p:=⟨b,off+k*2+1,none⟩) hbw).trans hwt0;have hx:=(HB.cell (p:=⟨b1,o1+col,none⟩) hb1).trans hx0;have hb1r:b1<wr.heap.size:=Nat.lt_of_lt_of_le hb1 HB.size;have hfk:=HF.out.at hlt';have HS:Hid (k1A col (g.take (max (k+1) 1))=max (k1A col (g.take (max k 1))) ((g.getD k ([],0)).1.getD col 0)):=k5J hlt';have hin:=hfk;obtain ⟨m,HM⟩:∃ m,Hid (m=(g.getD k ([],0)).1.length):=⟨_,rfl⟩;obtain ⟨y,HY⟩:∃ y,Hid (y=(g.getD k ([],0)).2):=⟨_,rfl⟩;obtain ⟨z,HZ⟩:∃ z,Hid (z=(g.getD k ([],0)).1.getD col 0):=⟨_,rfl⟩;obtain ⟨s0,HS0⟩:∃ s,Hid (s=k1A col (g.take (max k 1))):=⟨_,rfl⟩;rw [<-HM.out] at hrv hfk;rw [<-HY.out] at hwt hfk;rw [<-HZ.out] at hx hfk HS;rw [<-HS0.out] at HS ⊢;clear hrv0 hwt0 hix0 hx0 hc;have hcl:col<m:=hfk.2.1;go_wp2;go_roundw
    case rel=>exact ⟨k+1,by omega,by go_num,by rw [HS.out]; first | rfl | (simp; omega) | skip,z1D HW.out (z1C _)⟩
    case measure=>simp [intOf]; omega
   ·
    obtain rfl:k=n:=by omega
    have HE:Hid (k1A col (g.take (max k 1))=k1A col g):=by
     show _=_;rw [show max k 1=k by omega,HN.out,List.take_length]
    obtain ⟨s0,HS0⟩:∃ s,Hid (s=k1A col (g.take (max k 1))):=⟨_,rfl⟩;rw [<-HS0.out] at HE ⊢;clear hc;go_wp2;go_ret;exact ⟨reti HE.out,HW.out⟩
end Go.Proofs.YtmjaepdplbgohaaGreatDoor
