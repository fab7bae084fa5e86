/- Part of the proof of laws.FnMean: Kinds, ManyOf, Fits, FitsMap, Rep, LoadIn, YieldP, Parts, RangeDies, RoundReg, Rep2. -/
import Derived.Test.YtmjaepdplbgohaaGreatDoorPkE
import Derived.Test.YtmjaepdplbgohaaGreatDoorPkA
import Derived.Deep.RegionHeld3
import Derived.Deep.RegionHeld
import Derived.OrdersHeld
import Derived.RangeFuncNested
import Derived.RangeFuncBound
import Derived.RangeFuncCalls
import Derived.RangeFuncLeaves
import Derived.Shelf.Abstract
import Derived.Shelf.RegionOpen
import Derived.WalkKit
import Derived.OwnWalkIn
import Derived.TacticsInMore
import Derived.LoopNIn
import Derived.LoopIn
import Derived.Test.YtmjaepdplbgohaaGreatDoorRows
import Derived.Laws.CopyOwn
import Derived.Handy
set_option maxRecDepth 100000
set_option maxHeartbeats 16000000
set_option linter.unusedVariables false
set_option linter.unusedSimpArgs false
namespace Go.Proofs.YtmjaepdplbgohaaGreatDoor.Kd
open Go.RowKit
theorem x5O (w:World):Calls Tryz.prog 200 #[.agg #[]] w fun e w'=>e = .returned (.int .i64 0)/\Below w.heap.size w w':=by
 go_enter Tryz.func200,Tryz.ntmps200;go_wp2;go_ret;exact ⟨rfl,z1B _⟩
theorem x2W (w:World):Calls Tryz.prog 205 #[.agg #[]] w fun e w'=>e = .returned (.int .i64 1)/\Below w.heap.size w w':=by
 go_enter Tryz.func205,Tryz.ntmps205;go_wp2;go_ret;exact ⟨rfl,z1B _⟩
theorem j3C (w:World):Calls Tryz.prog 216 #[.agg #[]] w fun e w'=>e = .returned (.int .i64 2)/\Below w.heap.size w w':=by
 go_enter Tryz.func216,Tryz.ntmps216;go_wp2;go_ret;exact ⟨rfl,z1B _⟩
theorem q1O (a b:Int) (w:World):Calls Tryz.prog 75 #[.int .i64 a,.int .i64 b] w fun e w'=>e = .returned (.bool (decide (0<=a/\a<b)))/\w'=w:=by
 by_cases h:0<=a
 ·
  by_cases k:a<b
  ·
   rw [show decide (0<=a/\a<b)=true from by simp [h,k]];go_enter Tryz.func75,Tryz.ntmps75;go_wp2;go_ret;exact ⟨rfl,rfl⟩
  ·
   rw [show decide (0<=a/\a<b)=false from by simp [h,k]];go_enter Tryz.func75,Tryz.ntmps75;go_wp2;go_ret;exact ⟨rfl,rfl⟩
 ·
  rw [show decide (0<=a/\a<b)=false from by simp [h]];go_enter Tryz.func75,Tryz.ntmps75;go_wp2;go_ret;exact ⟨rfl,rfl⟩
theorem k2S (n:Int) (v:Value) (w:World):Calls Tryz.prog 201 #[.agg #[.int .i64 n],v] w fun e w'=>e = .returned (.bool (decide (0<=n/\n<3)))/\Below w.heap.size w w':=by
 obtain ⟨b,hb⟩:∃ b,decide (0<=n/\n<3)=b:=⟨_,rfl⟩;rw [hb];go_enter Tryz.func201,Tryz.ntmps201;go_wp2_with fail;refine (q1O n 3 _).mono ?_;rw [hb];rintro e w1 ⟨rfl,rfl⟩;go_wp2;go_ret;exact ⟨rfl,z1B _⟩
theorem z3Y (v:Value) (w:World):Calls Tryz.prog 225 #[.agg #[],v] w fun e w'=>e = .returned (.bool true)/\Below w.heap.size w w':=by
 go_enter Tryz.func225,Tryz.ntmps225;go_wp2;go_ret;exact ⟨rfl,z1B _⟩
theorem k5C (d:Nd) (ca ka:Option Addr) (nc cc nk kc:Nat) (vd:Value) (y:Int) (b:Nat) (w:World) (hr:w.heap[b]? = some (.cells (z1J d (.slice ca nc cc) (.slice ka nk kc) vd).toArray 31)) (h:Calls Tryz.prog 45 #[.agg (z1J d (.slice ca nc cc) (.slice ka nk kc) vd).toArray] w fun e w'=>e = .returned (.int .i64 y)/\Below w.heap.size w w') :
  Calls Tryz.prog 57 #[.pointer (some ⟨b,0,none⟩)] w fun e w'=>e = .returned (.int .i64 y)/\Below w.heap.size w w':=by
 have HR:Hid (w.rangeAt b 0 (z1J d (.slice ca nc cc) (.slice ka nk kc) vd)):=j1B hr;have hla:(Tryz.prog.info? 31).map (·.size)=some (z1J d (.slice ca nc cc) (.slice ka nk kc) vd).length:=by kernel_rfl
 clear hr;go_enter Tryz.func57,Tryz.ntmps57;go_wp2_with (refine wpList_load_mid rfl 31 _ rfl b 0 rfl _ _ HR.out Tryz.underlying31 rfl hla ?_);refine h.mono ?_;rintro e w1 ⟨rfl,hb⟩;have HB:Hid (Below w.heap.size w w1):=hb;clear hb;go_wp2_with fail;go_ret;exact ⟨rfl,HB.out⟩
theorem q6J (d:Nd) (ca ka:Option Addr) (nc cc nk kc:Nat) (vd:Value) (y:Int) (w:World) (h:∀ w2,Below w.heap.size w w2->Calls Tryz.prog 45 #[.agg (z1J d (.slice ca nc cc) (.slice ka nk kc) vd).toArray] w2 fun e w'=>e = .returned (.int .i64 y)/\Below w2.heap.size w2 w') :
  Calls Tryz.prog 21 #[.agg (z1J d (.slice ca nc cc) (.slice ka nk kc) vd).toArray] w fun e w'=>e = .returned (.int .i64 y)/\Below w.heap.size w w':=by
 have hmf:∀ (fn:Fn) (first cap:Array Value) (w:World),(Instr.makeFunc fn first cap).run Tryz.prog w = .ok (.func fn first cap) w:=fun _ _ _ _=>rfl;have HA:Hid ((w.alloc (.cells (z1J d (.slice ca nc cc) (.slice ka nk kc) vd).toArray 31)).heap[w.heap.size]? = some (.cells (z1J d (.slice ca nc cc) (.slice ka nk kc) vd).toArray 31)):=alloc_at _ _;have H:Hid (∀ w2,Below w.heap.size w w2->Calls Tryz.prog 45 #[.agg (z1J d (.slice ca nc cc) (.slice ka nk kc) vd).toArray] w2 fun e w'=>e = .returned (.int .i64 y)/\Below w2.heap.size w2 w'):=h;clear h;go_enter Tryz.func21,Tryz.ntmps21;go_wp2_with fail;refine (v4G 0 y ⟨w.heap.size,0,none⟩ _ fun w2 e2=> ?_).mono ?_
 ·
  subst e2;exact k5C d ca ka nc cc nk kc vd _ _ _ (z1F HA.out (two _ _ _).2.2) (H.out _ (z1A (z1B _) (two _ _ _).2.2))
 rintro e w1 ⟨rfl,hb⟩;have HB:Hid (Below w.heap.size w w1):=z1A (z1B _) hb;clear hb;go_wp2_with fail;go_ret;exact ⟨rfl,HB.out⟩
theorem k5D (d:Nd) (ca ka:Option Addr) (nc cc nk kc:Nat) (vd:Value) (pa:Addr) (b:Nat) (w:World) (hr:w.heap[b]? = some (.cells (z1J d (.slice ca nc cc) (.slice ka nk kc) vd).toArray 31)) (h:Calls Tryz.prog 45 #[.agg (z1J d (.slice ca nc cc) (.slice ka nk kc) vd).toArray] w fun e w'=>e=x2M pa/\Below w.heap.size w w') :
  Calls Tryz.prog 57 #[.pointer (some ⟨b,0,none⟩)] w fun e w'=>e=x2M pa/\Below w.heap.size w w':=by
 have HR:Hid (w.rangeAt b 0 (z1J d (.slice ca nc cc) (.slice ka nk kc) vd)):=j1B hr;have hla:(Tryz.prog.info? 31).map (·.size)=some (z1J d (.slice ca nc cc) (.slice ka nk kc) vd).length:=by kernel_rfl
 clear hr;go_enter Tryz.func57,Tryz.ntmps57;go_wp2_with (refine wpList_load_mid rfl 31 _ rfl b 0 rfl _ _ HR.out Tryz.underlying31 rfl hla ?_);refine h.mono ?_;rintro e w1 ⟨rfl,hb⟩;exact ⟨rfl,rfl,hb⟩
theorem q6K (d:Nd) (ca ka:Option Addr) (nc cc nk kc:Nat) (vd:Value) (pa:Addr) (w:World) (h:∀ w2,Below w.heap.size w w2->Calls Tryz.prog 45 #[.agg (z1J d (.slice ca nc cc) (.slice ka nk kc) vd).toArray] w2 fun e w'=>e=x2M pa/\Below w2.heap.size w2 w') :
  Calls Tryz.prog 21 #[.agg (z1J d (.slice ca nc cc) (.slice ka nk kc) vd).toArray] w fun e w'=>e = .returned (.int .i64 0)/\Below w.heap.size w w':=by
 have hmf:∀ (fn:Fn) (first cap:Array Value) (w:World),(Instr.makeFunc fn first cap).run Tryz.prog w = .ok (.func fn first cap) w:=fun _ _ _ _=>rfl;have HA:Hid ((w.alloc (.cells (z1J d (.slice ca nc cc) (.slice ka nk kc) vd).toArray 31)).heap[w.heap.size]? = some (.cells (z1J d (.slice ca nc cc) (.slice ka nk kc) vd).toArray 31)):=alloc_at _ _;have H:Hid (∀ w2,Below w.heap.size w w2->Calls Tryz.prog 45 #[.agg (z1J d (.slice ca nc cc) (.slice ka nk kc) vd).toArray] w2 fun e w'=>e=x2M pa/\Below w2.heap.size w2 w'):=h;clear h;go_enter Tryz.func21,Tryz.ntmps21;go_wp2_with fail;refine (v4H 0 ⟨w.heap.size,0,none⟩ pa _ fun w2 e2=> ?_).mono ?_
 ·
  subst e2;exact k5D d ca ka nc cc nk kc vd _ _ _ (z1F HA.out (two _ _ _).2.2) (H.out _ (z1A (z1B _) (two _ _ _).2.2))
 rintro e w1 ⟨rfl,hb⟩;have HB:Hid (Below w.heap.size w w1):=z1A (z1B _) hb;clear hb;go_wp2_with fail;go_ret;exact ⟨rfl,HB.out⟩
theorem q3B  (x y:Int) (b o cap:Nat) (w:World) (hb:b<w.heap.size) (h0:w.cell? ⟨b,o,none⟩=some (.int .i64 x)) (h1:w.cell? ⟨b,o+1,none⟩=some (.int .i64 y)) :
  Calls Tryz.prog 221 #[.agg #[],.slice (some ⟨b,o,none⟩) 2 cap] w fun e w'=>e = .returned (.bool (x==y))/\Below w.heap.size w w':=by
 have k0:(w.alloc (.cells #[] 149)).cell? ⟨b,o,none⟩=some (.int .i64 x):=((z1B _).cell (p:=⟨b,o,none⟩) hb).trans h0;have k1:(w.alloc (.cells #[] 149)).cell? ⟨b,o+1,none⟩=some (.int .i64 y):=((z1B _).cell (p:=⟨b,o+1,none⟩) hb).trans h1;clear h0 h1;obtain ⟨c,hc⟩:∃ c,(x==y)=c:=⟨_,rfl⟩;rw [hc];go_enter Tryz.func221,Tryz.ntmps221;go_wp2;go_quiet (fail)
 go_wp2;go_ret;exact ⟨rfl,below_drewN (z1B _) _⟩
theorem q3A (p q:Int) (x y:Int) (b o cap:Nat) (w:World) (hb:b<w.heap.size) (h0:w.cell? ⟨b,o,none⟩=some (.int .i64 x)) (h1:w.cell? ⟨b,o+1,none⟩=some (.int .i64 y)) :
  Calls Tryz.prog 217 #[.agg #[.int .i64 p,.int .i64 q],.slice (some ⟨b,o,none⟩) 2 cap] w fun e w'=>e = .returned (.bool (decide (0<=p/\p<x)&&decide (0<=q/\q<y)))/\Below w.heap.size w w':=by
 have k0:(w.alloc (.cells #[.int .i64 p,.int .i64 q] 147)).cell? ⟨b,o,none⟩=some (.int .i64 x):=((z1B _).cell (p:=⟨b,o,none⟩) hb).trans h0;have k1:(w.alloc (.cells #[.int .i64 p,.int .i64 q] 147)).cell? ⟨b,o+1,none⟩=some (.int .i64 y):=((z1B _).cell (p:=⟨b,o+1,none⟩) hb).trans h1;have a0:(w.alloc (.cells #[.int .i64 p,.int .i64 q] 147)).cell? ⟨w.heap.size,0,none⟩=some (.int .i64 p):=cell_at (alloc_at _ _) rfl;have a1:(w.alloc (.cells #[.int .i64 p,.int .i64 q] 147)).cell? ⟨w.heap.size,1,none⟩=some (.int .i64 q):=cell_at (alloc_at _ _) rfl;have hlb:b<(w.alloc (.cells #[.int .i64 p,.int .i64 q] 147)).heap.size:=Nat.lt_of_lt_of_le hb (z1B _).size;have hls:w.heap.size<(w.alloc (.cells #[.int .i64 p,.int .i64 q] 147)).heap.size:=by rw [q1C]; exact Nat.lt_succ_self _
 clear h0 h1;obtain ⟨c,HC⟩:∃ c,Hid (decide (0<=p/\p<x)=c):=⟨_,rfl⟩;obtain ⟨d,HD⟩:∃ c,Hid (decide (0<=q/\q<y)=c):=⟨_,rfl⟩;rw [HC.out,HD.out];go_enter Tryz.func217,Tryz.ntmps217;go_wp2_with fail;obtain ⟨wa,hwa⟩:∃ wa,wa=(w.alloc (.cells #[.int .i64 p,.int .i64 q] 147)):=⟨_,rfl⟩;have HB:Hid (Below w.heap.size w wa):=by rw [hwa]; exact z1B _
 rw [<-hwa] at k0 k1 a0 a1 hlb hls ⊢;clear hwa;have KP:Hid (∀ z,Below wa.heap.size wa z->z.cell? ⟨b,o,none⟩=some (.int .i64 x)/\z.cell? ⟨b,o+1,none⟩=some (.int .i64 y)/\z.cell? ⟨w.heap.size,0,none⟩=some (.int .i64 p)/\z.cell? ⟨w.heap.size,1,none⟩=some (.int .i64 q)/\Hid (Below wa.heap.size wa z)):=fun z hz=>⟨(hz.cell (p:=⟨b,o,none⟩) hlb).trans k0,(hz.cell (p:=⟨b,o+1,none⟩) hlb).trans k1,(hz.cell (p:=⟨w.heap.size,0,none⟩) hls).trans a0,(hz.cell (p:=⟨w.heap.size,1,none⟩) hls).trans a1,hz⟩;clear k0 k1 a0 a1 hlb hls;cases c with
 | false=>
  refine wp_region_held_drew (S:=(fun z=>z.cell? ⟨b,o,none⟩=some (.int .i64 x)/\z.cell? ⟨b,o+1,none⟩=some (.int .i64 y)/\z.cell? ⟨w.heap.size,0,none⟩=some (.int .i64 p)/\z.cell? ⟨w.heap.size,1,none⟩=some (.int .i64 q)/\Hid (Below wa.heap.size wa z))) (by kernel_rfl) ?_ (fun hHeld=> ?_)
  ·
   (try dsimp only); exact KP.out _ (by first | exact Below.refl _ _ | exact Below.drew (Below.refl _ _))
  refine tk 0 ?_; simp only [ap];refine tk 1 ?_; simp only [ap];refine tk 2 ?_; simp only [ap];refine tk 3 ?_; simp only [ap];refine tk 4 ?_; simp only [ap];refine r1 5 (fun K hK=> ?_);go_simp;(go_at_call 75; refine (q1O p x _).mono ?_; rw [HC.out]; rintro e w2 ⟨rfl,rfl⟩);refine hK.out _ _ ?_ (fun hHeld=> ?_)
  ·
   (try dsimp only); exact hHeld
  clear hK K;try simp only [ap]
  refine tk 6 ?_; simp only [ap];refine tu 7 ?_; simp only [ap];refine tu 8 ?_; simp only [ap];refine tu 9 ?_; simp only [ap];refine tu 10 ?_; simp only [ap];refine tu 11 ?_; simp only [ap];refine tu 12 ?_; simp only [ap];refine tk 13 ?_; simp only [ap];refine tk 14 ?_; simp only [ap];refine dn ?_;have HE:=z1A HB.out hHeld.2.2.2.2.out;clear hHeld KP;go_wp2;go_ret;exact ⟨rfl,HE⟩
 | true=>
  refine wp_region_held_drew (S:=(fun z=>z.cell? ⟨b,o,none⟩=some (.int .i64 x)/\z.cell? ⟨b,o+1,none⟩=some (.int .i64 y)/\z.cell? ⟨w.heap.size,0,none⟩=some (.int .i64 p)/\z.cell? ⟨w.heap.size,1,none⟩=some (.int .i64 q)/\Hid (Below wa.heap.size wa z))) (by kernel_rfl) ?_ (fun hHeld=> ?_)
  ·
   (try dsimp only); exact KP.out _ (by first | exact Below.refl _ _ | exact Below.drew (Below.refl _ _))
  refine tk 0 ?_; simp only [ap];refine tk 1 ?_; simp only [ap];refine tk 2 ?_; simp only [ap];refine tk 3 ?_; simp only [ap];refine tk 4 ?_; simp only [ap];refine r1 5 (fun K hK=> ?_);go_simp;(go_at_call 75; refine (q1O p x _).mono ?_; rw [HC.out]; rintro e w2 ⟨rfl,rfl⟩);refine hK.out _ _ ?_ (fun hHeld=> ?_)
  ·
   (try dsimp only); exact hHeld
  clear hK K;try simp only [ap]
  refine tk 6 ?_; simp only [ap];refine tk 7 ?_; simp only [ap];refine tk 8 ?_; simp only [ap];refine tk 9 ?_; simp only [ap];refine tk 10 ?_; simp only [ap];refine tk 11 ?_; simp only [ap];refine r1 12 (fun K hK=> ?_);go_simp;(go_at_call 75; refine (q1O q y _).mono ?_; rw [HD.out]; rintro e w2 ⟨rfl,rfl⟩);refine hK.out _ _ ?_ (fun hHeld=> ?_)
  ·
   (try dsimp only); exact hHeld
  clear hK K;try simp only [ap]
  refine tk 13 ?_; simp only [ap];refine tk 14 ?_; simp only [ap];refine dn ?_;have HE:=z1A HB.out hHeld.2.2.2.2.out;clear hHeld KP;go_wp2;go_ret;exact ⟨rfl,HE⟩
theorem k2R (t:Tst) (x y:Int) (b o cap:Nat) (w:World) (hb:b<w.heap.size) (h0:w.cell? ⟨b,o,none⟩=some (.int .i64 x)) (c:Bool) (hT:∀ w',Below w.heap.size w w'->Calls Tryz.prog 210 #[.agg (t10 t).toArray,.int .i64 x] w' fun e w''=>e = .returned (.bool c)/\Below w'.heap.size w' w'') :
  Calls Tryz.prog 206 #[.agg (t10 t).toArray,.slice (some ⟨b,o,none⟩) 1 cap] w fun e w'=>e = .returned (.bool (c))/\Below w.heap.size w w':=by
 have HT:Hid (∀ w',Below w.heap.size w w'->Calls Tryz.prog 210 #[.agg (t10 t).toArray,.int .i64 x] w' fun e w''=>e = .returned (.bool c)/\Below w'.heap.size w' w''):=hT;clear hT;have hlt:(Tryz.prog.info? 26).map (·.size)=some (t10 t).length:=by kernel_rfl
 have k0:(w.alloc (.cells (t10 t).toArray 142)).cell? ⟨b,o,none⟩=some (.int .i64 x):=((z1B _).cell (p:=⟨b,o,none⟩) hb).trans h0;have r0:(w.alloc (.cells (t10 t).toArray 142)).rangeAt w.heap.size 0 (t10 t):=j1B (alloc_at _ _);have hlb:b<(w.alloc (.cells (t10 t).toArray 142)).heap.size:=Nat.lt_of_lt_of_le hb (z1B _).size;have hls:w.heap.size<(w.alloc (.cells (t10 t).toArray 142)).heap.size:=by rw [q1C]; exact Nat.lt_succ_self _
 clear h0;go_enter Tryz.func206,Tryz.ntmps206;go_wp2_with fail;obtain ⟨wa,hwa⟩:∃ wa,wa=(w.alloc (.cells (t10 t).toArray 142)):=⟨_,rfl⟩;have HB:Hid (Below w.heap.size w wa):=by rw [hwa]; exact z1B _
 rw [<-hwa] at k0 r0 hlb hls ⊢;clear hwa;have KP:Hid (∀ z,Below wa.heap.size wa z->z.cell? ⟨b,o,none⟩=some (.int .i64 x)/\z.rangeAt w.heap.size 0 (t10 t)/\Hid (Below wa.heap.size wa z)):=fun z hz=>⟨(hz.cell (p:=⟨b,o,none⟩) hlb).trans k0,(fun j v hv=>(hz.cell (p:=⟨w.heap.size,0+j,none⟩) hls).trans (r0 j v hv)),hz⟩;clear k0 r0 hlb hls;refine wp_region_held_drew (S:=(fun z=>z.cell? ⟨b,o,none⟩=some (.int .i64 x)/\z.rangeAt w.heap.size 0 (t10 t)/\Hid (Below wa.heap.size wa z))) (by kernel_rfl) ?_ (fun hHeld=> ?_)
 ·
  (try dsimp only); exact KP.out _ (by first | exact Below.refl _ _ | exact Below.drew (Below.refl _ _))
 refine tk 0 ?_; simp only [ap];refine tl 1 (v:=.agg (t10 t).toArray) rfl (yieldsIf_load_mid (by rfl) 26 _ rfl w.heap.size 0 rfl (t10 t) _ (fun x h=>h.2.1) Tryz.underlying26 rfl hlt) ?_;simp only [ap];refine tk 2 ?_; simp only [ap];refine tk 3 ?_; simp only [ap];refine tk 4 ?_; simp only [ap];refine r1 5 (fun K hK=> ?_);go_simp;(go_at_call 210; refine (HT.out _ (z1A HB.out hHeld.2.2.out)).mono ?_; rintro e w2 ⟨rfl,hb2⟩; have HZ:=z1A hHeld.2.2.out hb2; clear hb2);refine hK.out _ _ ?_ (fun hHeld=> ?_)
 ·
  (try dsimp only); exact KP.out _ HZ
 clear hK K;try simp only [ap]
 refine tk 6 ?_; simp only [ap];refine dn ?_;have HE:=z1A HB.out hHeld.2.2.out;clear hHeld KP HT;go_wp2;go_ret;exact ⟨rfl,HE⟩
theorem k2T (ka:Option Addr) (nk kc:Nat) (p q:Int) (x y:Int) (b o cap:Nat) (w:World) (hb:b<w.heap.size) (h0:w.cell? ⟨b,o,none⟩=some (.int .i64 x)) (c:Bool) (hT:∀ w',Below w.heap.size w w'->Calls Tryz.prog 36 #[.slice ka nk kc,.int .i64 x] w' fun e w''=>e = .returned (.bool c)/\Below w'.heap.size w' w'') :
  Calls Tryz.prog 229 #[.agg #[.slice ka nk kc,.int .i64 p,.int .i64 q],.slice (some ⟨b,o,none⟩) 1 cap] w fun e w'=>e = .returned (.bool (c&&decide (0<=p/\p<4)&&decide (0<=q/\q<x)))/\Below w.heap.size w w':=by
 have HT:Hid (∀ w',Below w.heap.size w w'->Calls Tryz.prog 36 #[.slice ka nk kc,.int .i64 x] w' fun e w''=>e = .returned (.bool c)/\Below w'.heap.size w' w''):=hT;clear hT;have k0:(w.alloc (.cells #[.slice ka nk kc,.int .i64 p,.int .i64 q] 153)).cell? ⟨b,o,none⟩=some (.int .i64 x):=((z1B _).cell (p:=⟨b,o,none⟩) hb).trans h0;have a0:(w.alloc (.cells #[.slice ka nk kc,.int .i64 p,.int .i64 q] 153)).cell? ⟨w.heap.size,0,none⟩=some (.slice ka nk kc):=cell_at (alloc_at _ _) rfl;have a1:(w.alloc (.cells #[.slice ka nk kc,.int .i64 p,.int .i64 q] 153)).cell? ⟨w.heap.size,1,none⟩=some (.int .i64 p):=cell_at (alloc_at _ _) rfl;have a2:(w.alloc (.cells #[.slice ka nk kc,.int .i64 p,.int .i64 q] 153)).cell? ⟨w.heap.size,2,none⟩=some (.int .i64 q):=cell_at (alloc_at _ _) rfl;have hlb:b<(w.alloc (.cells #[.slice ka nk kc,.int .i64 p,.int .i64 q] 153)).heap.size:=Nat.lt_of_lt_of_le hb (z1B _).size;have hls:w.heap.size<(w.alloc (.cells #[.slice ka nk kc,.int .i64 p,.int .i64 q] 153)).heap.size:=by rw [q1C]; exact Nat.lt_succ_self _
 clear h0;obtain ⟨d,HD⟩:∃ c,Hid (decide (0<=p/\p<4)=c):=⟨_,rfl⟩;obtain ⟨f,HF⟩:∃ c,Hid (decide (0<=q/\q<x)=c):=⟨_,rfl⟩;rw [HD.out,HF.out];go_enter Tryz.func229,Tryz.ntmps229;go_wp2_with fail;obtain ⟨wa,hwa⟩:∃ wa,wa=(w.alloc (.cells #[.slice ka nk kc,.int .i64 p,.int .i64 q] 153)):=⟨_,rfl⟩;have HB:Hid (Below w.heap.size w wa):=by rw [hwa]; exact z1B _
 rw [<-hwa] at k0 a0 a1 a2 hlb hls ⊢;clear hwa;have KP:Hid (∀ z,Below wa.heap.size wa z->z.cell? ⟨b,o,none⟩=some (.int .i64 x)/\z.cell? ⟨w.heap.size,0,none⟩=some (.slice ka nk kc)/\z.cell? ⟨w.heap.size,1,none⟩=some (.int .i64 p)/\z.cell? ⟨w.heap.size,2,none⟩=some (.int .i64 q)/\Hid (Below wa.heap.size wa z)):=fun z hz=>⟨(hz.cell (p:=⟨b,o,none⟩) hlb).trans k0,(hz.cell (p:=⟨w.heap.size,0,none⟩) hls).trans a0,(hz.cell (p:=⟨w.heap.size,1,none⟩) hls).trans a1,(hz.cell (p:=⟨w.heap.size,2,none⟩) hls).trans a2,hz⟩;clear k0 a0 a1 a2 hlb hls;cases c with
 | false=>
  refine wp_region_held_drew (S:=(fun z=>z.cell? ⟨b,o,none⟩=some (.int .i64 x)/\z.cell? ⟨w.heap.size,0,none⟩=some (.slice ka nk kc)/\z.cell? ⟨w.heap.size,1,none⟩=some (.int .i64 p)/\z.cell? ⟨w.heap.size,2,none⟩=some (.int .i64 q)/\Hid (Below wa.heap.size wa z))) (by kernel_rfl) ?_ (fun hHeld=> ?_)
  ·
   (try dsimp only); exact KP.out _ (by first | exact Below.refl _ _ | exact Below.drew (Below.refl _ _))
  refine tk 0 ?_; simp only [ap];refine tk 1 ?_; simp only [ap];refine tk 2 ?_; simp only [ap];refine tk 3 ?_; simp only [ap];refine tk 4 ?_; simp only [ap];refine r1 5 (fun K hK=> ?_);go_simp;(go_at_call 36; refine (HT.out _ (z1A HB.out hHeld.2.2.2.2.out)).mono ?_; rintro e w2 ⟨rfl,hb2⟩; have HZ:=z1A hHeld.2.2.2.2.out hb2; clear hb2);refine hK.out _ _ ?_ (fun hHeld=> ?_)
  ·
   (try dsimp only); exact KP.out _ HZ
  clear hK K;try simp only [ap]
  refine tk 6 ?_; simp only [ap];refine tu 7 ?_; simp only [ap];refine tu 8 ?_; simp only [ap];refine tu 9 ?_; simp only [ap];refine tk 10 ?_; simp only [ap];refine tk 11 ?_; simp only [ap];refine tu 12 ?_; simp only [ap];refine tu 13 ?_; simp only [ap];refine tu 14 ?_; simp only [ap];refine tu 15 ?_; simp only [ap];refine tu 16 ?_; simp only [ap];refine tu 17 ?_; simp only [ap];refine tk 18 ?_; simp only [ap];refine tk 19 ?_; simp only [ap];refine dn ?_;have HE:=z1A HB.out hHeld.2.2.2.2.out;clear hHeld KP HT;go_wp2;go_ret;exact ⟨rfl,HE⟩
 | true=>
  cases d with
  | false=>
   refine wp_region_held_drew (S:=(fun z=>z.cell? ⟨b,o,none⟩=some (.int .i64 x)/\z.cell? ⟨w.heap.size,0,none⟩=some (.slice ka nk kc)/\z.cell? ⟨w.heap.size,1,none⟩=some (.int .i64 p)/\z.cell? ⟨w.heap.size,2,none⟩=some (.int .i64 q)/\Hid (Below wa.heap.size wa z))) (by kernel_rfl) ?_ (fun hHeld=> ?_)
   ·
    (try dsimp only); exact KP.out _ (by first | exact Below.refl _ _ | exact Below.drew (Below.refl _ _))
   refine tk 0 ?_; simp only [ap];refine tk 1 ?_; simp only [ap];refine tk 2 ?_; simp only [ap];refine tk 3 ?_; simp only [ap];refine tk 4 ?_; simp only [ap];refine r1 5 (fun K hK=> ?_);go_simp;(go_at_call 36; refine (HT.out _ (z1A HB.out hHeld.2.2.2.2.out)).mono ?_; rintro e w2 ⟨rfl,hb2⟩; have HZ:=z1A hHeld.2.2.2.2.out hb2; clear hb2);refine hK.out _ _ ?_ (fun hHeld=> ?_)
   ·
    (try dsimp only); exact KP.out _ HZ
   clear hK K;try simp only [ap]
   refine tk 6 ?_; simp only [ap];refine tk 7 ?_; simp only [ap];refine tk 8 ?_; simp only [ap];refine r1 9 (fun K hK=> ?_);go_simp;(go_at_call 75; refine (q1O p 4 _).mono ?_; rw [HD.out]; rintro e w2 ⟨rfl,rfl⟩);refine hK.out _ _ ?_ (fun hHeld=> ?_)
   ·
    (try dsimp only); exact hHeld
   clear hK K;try simp only [ap]
   refine tk 10 ?_; simp only [ap];refine tk 11 ?_; simp only [ap];refine tu 12 ?_; simp only [ap];refine tu 13 ?_; simp only [ap];refine tu 14 ?_; simp only [ap];refine tu 15 ?_; simp only [ap];refine tu 16 ?_; simp only [ap];refine tu 17 ?_; simp only [ap];refine tk 18 ?_; simp only [ap];refine tk 19 ?_; simp only [ap];refine dn ?_;have HE:=z1A HB.out hHeld.2.2.2.2.out;clear hHeld KP HT;go_wp2;go_ret;exact ⟨rfl,HE⟩
  | true=>
   refine wp_region_held_drew (S:=(fun z=>z.cell? ⟨b,o,none⟩=some (.int .i64 x)/\z.cell? ⟨w.heap.size,0,none⟩=some (.slice ka nk kc)/\z.cell? ⟨w.heap.size,1,none⟩=some (.int .i64 p)/\z.cell? ⟨w.heap.size,2,none⟩=some (.int .i64 q)/\Hid (Below wa.heap.size wa z))) (by kernel_rfl) ?_ (fun hHeld=> ?_)
   ·
    (try dsimp only); exact KP.out _ (by first | exact Below.refl _ _ | exact Below.drew (Below.refl _ _))
   refine tk 0 ?_; simp only [ap];refine tk 1 ?_; simp only [ap];refine tk 2 ?_; simp only [ap];refine tk 3 ?_; simp only [ap];refine tk 4 ?_; simp only [ap];refine r1 5 (fun K hK=> ?_);go_simp;(go_at_call 36; refine (HT.out _ (z1A HB.out hHeld.2.2.2.2.out)).mono ?_; rintro e w2 ⟨rfl,hb2⟩; have HZ:=z1A hHeld.2.2.2.2.out hb2; clear hb2);refine hK.out _ _ ?_ (fun hHeld=> ?_)
   ·
    (try dsimp only); exact KP.out _ HZ
   clear hK K;try simp only [ap]
   refine tk 6 ?_; simp only [ap];refine tk 7 ?_; simp only [ap];refine tk 8 ?_; simp only [ap];refine r1 9 (fun K hK=> ?_);go_simp;(go_at_call 75; refine (q1O p 4 _).mono ?_; rw [HD.out]; rintro e w2 ⟨rfl,rfl⟩);refine hK.out _ _ ?_ (fun hHeld=> ?_)
   ·
    (try dsimp only); exact hHeld
   clear hK K;try simp only [ap]
   refine tk 10 ?_; simp only [ap];refine tk 11 ?_; simp only [ap];refine tk 12 ?_; simp only [ap];refine tk 13 ?_; simp only [ap];refine tk 14 ?_; simp only [ap];refine tk 15 ?_; simp only [ap];refine tk 16 ?_; simp only [ap];refine r1 17 (fun K hK=> ?_);go_simp;(go_at_call 75; refine (q1O q x _).mono ?_; rw [HF.out]; rintro e w2 ⟨rfl,rfl⟩);refine hK.out _ _ ?_ (fun hHeld=> ?_)
   ·
    (try dsimp only); exact hHeld
   clear hK K;try simp only [ap]
   refine tk 18 ?_; simp only [ap];refine tk 19 ?_; simp only [ap];refine dn ?_;have HE:=z1A HB.out hHeld.2.2.2.2.out;clear hHeld KP HT;go_wp2;go_ret;exact ⟨rfl,HE⟩
theorem x3H (ca:Option Addr) (nc cc:Nat) (v:Value) (w:World) (h:nc<1\/6<nc) :
  Calls Tryz.prog 212 #[.agg #[.slice ca nc cc],v] w fun e w'=>e = .returned (.bool false)/\Below w.heap.size w w':=by
 rcases h with h | h
 ·
  obtain rfl:nc=0:=by omega
  go_enter Tryz.func212,Tryz.ntmps212;go_wp2;go_ret;exact ⟨rfl,z1B _⟩
 ·
  have h1:¬ ((nc:Int)<1):=by omega
  have h2:(nc:Int) > 6:=by omega
  go_enter Tryz.func212,Tryz.ntmps212;go_wp2;go_ret;exact ⟨rfl,z1B _⟩
theorem z3Z (cs:List Cel) (cb co cc n:Nat) (x:Int) (b o cap:Nat) (okc:Cel->Bool) (w:World) (h1:1<=n) (h6:n<=6) (hn:n=cs.length) (hcb:cb<w.heap.size) (hc:∀ j,j<cs.length->x3S w cb (co+j*4) (cs.getD j Cel.zero)) (hb:b<w.heap.size) (h0:w.cell? ⟨b,o,none⟩=some (.int .i64 x)) (hT:∀ c:Cel,∀ w',Below w.heap.size w w'->Calls Tryz.prog 211 #[.agg #[.int .i64 c.k,.int .i64 c.a,.int .i64 c.b,.int .i64 c.n],.int .i64 x] w' fun e w''=>e = .returned (.bool (okc c))/\Below w'.heap.size w' w'') :
  Calls Tryz.prog 212 #[.agg #[.slice (some ⟨cb,co,none⟩) n cc],.slice (some ⟨b,o,none⟩) 1 cap] w fun e w'=>e = .returned (.bool (cs.all okc))/\Below w.heap.size w w':=by
 have HT:Hid (∀ c:Cel,∀ w',Below w.heap.size w w'->Calls Tryz.prog 211 #[.agg #[.int .i64 c.k,.int .i64 c.a,.int .i64 c.b,.int .i64 c.n],.int .i64 x] w' fun e w''=>e = .returned (.bool (okc c))/\Below w'.heap.size w' w''):=hT;have HN:Hid (n=cs.length):=hn;have HC:Hid (∀ j,j<n->x3S w cb (co+j*4) (cs.getD j Cel.zero)):=by rw [hn]; exact hc
 have HCB:Hid (cb<w.heap.size):=hcb;have HBB:Hid (b<w.heap.size):=hb;have H0:Hid (w.cell? ⟨b,o,none⟩=some (.int .i64 x)):=h0;have hlc:∀ c:Cel,(Tryz.prog.info? 24).map (·.size)=some ([.int .i64 c.k,.int .i64 c.a,.int .i64 c.b,.int .i64 c.n]:List Value).length:=fun c=>by kernel_rfl
 have g1:¬ ((n:Int)<1):=by omega
 have g2:¬ ((n:Int) > 6):=by omega
 have HB0:Hid (Below w.heap.size w (w.alloc (.cells #[.slice (some ⟨cb,co,none⟩) n cc] 144))):=z1B _;clear hT hn hc hcb hb h0;obtain ⟨ans,HANS⟩:∃ a,Hid (a=cs.all okc):=⟨_,rfl⟩;rw [<-HANS.out];go_enter Tryz.func212,Tryz.ntmps212;go_wp2;clear g1 g2;go_loopw [20] (fun i wr=> ∃ k:Nat,k<=n/\i = .int .i64 k/\Hid (Below w.heap.size w wr)/\Hid (∀ j,j<k->okc (cs.getD j Cel.zero)=true)) (fun i _=>n - (intOf i).toNat)
 case atStart=>exact ⟨0,Nat.zero_le _,rfl,HB0.out,fun j hj=>by omega⟩
 case round=>
  obtain ⟨k,hk,rfl,HW,HS⟩:=hrel;by_cases hlt:k<n
  ·
   obtain ⟨x0,x1,x2,x3⟩:=(HC.out k hlt).below HW.out HCB.out;obtain ⟨c,HX⟩:∃ c,Hid (c=cs.getD k Cel.zero):=⟨_,rfl⟩;rw [<-HX.out] at x0 x1 x2 x3;go_wp2_with fail;obtain ⟨wx,hwx⟩:∃ wx,wx=wr.alloc (.cells #[.int .i64 c.k,.int .i64 c.a,.int .i64 c.b,.int .i64 c.n] 24):=⟨_,rfl⟩;have HBX:Hid (Below w.heap.size w wx):=by rw [hwx]; exact z1A HW.out (z1B _)
   have KP:Hid (∀ z,Below wx.heap.size wx z->z.cell? ⟨b,o,none⟩=some (.int .i64 x)/\z.rangeAt wr.heap.size 0 ([.int .i64 c.k,.int .i64 c.a,.int .i64 c.b,.int .i64 c.n]:List Value)/\Hid (Below wx.heap.size wx z)):=by
    intro z hz;refine ⟨((z1A HBX.out hz).cell (p:=⟨b,o,none⟩) HBB.out).trans H0.out,j1B (t:=24) (z1F ?_ hz),hz⟩;rw [hwx];exact alloc_at _ _
   rw [<-hwx];clear hwx x0 x1 x2 x3;obtain ⟨ok,HOK⟩:∃ ok,Hid (okc c=ok):=⟨_,rfl⟩;refine wp_region_held_drew (S:=(fun z=>z.cell? ⟨b,o,none⟩=some (.int .i64 x)/\z.rangeAt wr.heap.size 0 ([.int .i64 c.k,.int .i64 c.a,.int .i64 c.b,.int .i64 c.n]:List Value)/\Hid (Below wx.heap.size wx z))) (by kernel_rfl) ?_ (fun hHeld=> ?_)
   ·
    (try dsimp only); exact KP.out _ (by first | exact Below.refl _ _ | exact Below.drew (Below.refl _ _))
   refine tl 0 (v:=.agg ([.int .i64 c.k,.int .i64 c.a,.int .i64 c.b,.int .i64 c.n]:List Value).toArray) rfl (yieldsIf_load_mid (by rfl) 24 _ rfl wr.heap.size 0 rfl [.int .i64 c.k,.int .i64 c.a,.int .i64 c.b,.int .i64 c.n] _ (fun x h=>h.2.1) Tryz.underlying24 rfl (hlc c)) ?_;simp only [ap];refine tk 1 ?_; simp only [ap];refine tk 2 ?_; simp only [ap];refine tk 3 ?_; simp only [ap];refine r1 4 (fun K hK=> ?_);go_simp;(go_at_call 211; refine (HT.out c _ (z1A HBX.out hHeld.2.2.out)).mono ?_; rw [HOK.out]; rintro e w2 ⟨rfl,hb2⟩; have HZ:=z1A hHeld.2.2.out hb2; clear hb2);refine hK.out _ _ ?_ (fun hHeld=> ?_)
   ·
    (try dsimp only); exact KP.out _ HZ
   clear hK K;try simp only [ap]
   refine tk 5 ?_; simp only [ap];refine dn ?_;have HE:Hid (Below w.heap.size w _):=z1A HBX.out hHeld.2.2.out;clear hHeld KP;cases ok with
   | false=>
    have HA:ans=false:=by
     rw [HANS.out,List.all_eq_false];have hk2:k<cs.length:=by rw [<-HN.out]; exact hlt
     refine ⟨cs[k],List.getElem_mem hk2,?_⟩;have h:=HOK.out;rw [HX.out,List.getD_eq_getElem?_getD,List.getElem?_eq_getElem hk2,Option.getD_some] at h;simp [h]
    subst HA;go_wp2;go_ret;exact ⟨rfl,HE.out⟩
   | true=>
    go_wp2;go_roundw
    case rel=>exact ⟨k+1,by omega,by go_num,HE.out,fun j hj=>by
     rcases Nat.lt_succ_iff_lt_or_eq.1 hj with h | h
     ·
      exact HS.out j h
     ·
      rw [h,<-HX.out]; exact HOK.out⟩
    case measure=>simp [intOf]; omega
  ·
   have e:k=n:=by omega
   subst e;have HA:ans=true:=by
    rw [HANS.out,List.all_eq_true];intro y hy;obtain ⟨j,hj,rfl⟩:=List.getElem_of_mem hy;have:=HS.out j (by rw [HN.out]; exact hj);rwa [List.getD_eq_getElem?_getD,List.getElem?_eq_getElem hj,Option.getD_some] at this
   subst HA;go_wp2;go_ret;exact ⟨rfl,HW.out⟩
theorem mul64_0 (w:World):Calls Tryz.prog 163 #[.int .u64 1,.int .u64 0] w fun e w'=>e = .returned (.tuple #[.int .u64 0,.int .u64 0])/\w'=w:=by
 go_enter Tryz.func163,Tryz.ntmps163;go_wp2;go_ret2;exact ⟨rfl,rfl⟩
theorem mul_0 (w:World):Calls Tryz.prog 142 #[.int .u64 1,.int .u64 0] w fun e w'=>e = .returned (.tuple #[.int .u64 0,.int .u64 0])/\w'=w:=by
 go_enter Tryz.func142,Tryz.ntmps142;go_wp2_with (go_at_call 163; refine (mul64_0 _).mono ?_; rintro e w1 ⟨rfl,rfl⟩);go_ret2;exact ⟨rfl,rfl⟩
theorem mul64_1 (w:World):Calls Tryz.prog 163 #[.int .u64 1,.int .u64 1] w fun e w'=>e = .returned (.tuple #[.int .u64 0,.int .u64 1])/\w'=w:=by
 go_enter Tryz.func163,Tryz.ntmps163;go_wp2;go_ret2;exact ⟨rfl,rfl⟩
theorem mul_1 (w:World):Calls Tryz.prog 142 #[.int .u64 1,.int .u64 1] w fun e w'=>e = .returned (.tuple #[.int .u64 0,.int .u64 1])/\w'=w:=by
 go_enter Tryz.func142,Tryz.ntmps142;go_wp2_with (go_at_call 163; refine (mul64_1 _).mono ?_; rintro e w1 ⟨rfl,rfl⟩);go_ret2;exact ⟨rfl,rfl⟩
theorem mul64_2 (w:World):Calls Tryz.prog 163 #[.int .u64 1,.int .u64 2] w fun e w'=>e = .returned (.tuple #[.int .u64 0,.int .u64 2])/\w'=w:=by
 go_enter Tryz.func163,Tryz.ntmps163;go_wp2;go_ret2;exact ⟨rfl,rfl⟩
theorem mul_2 (w:World):Calls Tryz.prog 142 #[.int .u64 1,.int .u64 2] w fun e w'=>e = .returned (.tuple #[.int .u64 0,.int .u64 2])/\w'=w:=by
 go_enter Tryz.func142,Tryz.ntmps142;go_wp2_with (go_at_call 163; refine (mul64_2 _).mono ?_; rintro e w1 ⟨rfl,rfl⟩);go_ret2;exact ⟨rfl,rfl⟩
theorem z1S {F:Fence} {n:Nat} {P:Program} {ops:Array Oper} {rest:List Oper} {op:Oper} {a:Act} {w:World} {Q:Exit->Act->World->Prop} (hgd:op.guard=none) (ty:TypeId) (x:Operand) (ho:op.op = .load ty x)
  (b o:Nat) (hx:a.eval x = .pointer (some ⟨b,o,none⟩)) (cs:List Value) (d:TypeDesc) (hc:w.rangeAt b o cs)
  (hu:P.underlying ty=some d) (hd:d.isRow=true) (hi:(P.info? ty).map (·.size)=some cs.length)
  (h:wpListIn F n P ops Q rest (a.put op.dst (.agg cs.toArray)) w):wpListIn F n P ops Q (op :: rest) a w:=by
 refine wpListIn_plain hgd fun K hK=> ?_;unfold Oper.wpIn;refine ⟨?_,?_⟩
 ·
  simp [Oper.about,ho]
 ·
  rw [Oper.semAt_plain F _ _ (by rw [ho]; intro c hc'; cases hc')];simp only [execOp,ho,hx,Instr.loadAt,Instr.sureAddr,Sem.run_bind,Sem.run_pure,Result.andThen_ok,run_loadVar_mid w b o ty cs d hc hu hd hi];exact hK _ _ h
theorem j5E {B:Nat} {a:World} (b:Nat):∀ (vs:List Value) (o:Nat) (w:World),Below B a w->B<=b->Below B a (w.setCells b o vs)
 | [],_,_,h,_=>h
 | v :: r,o,w,h,hb=>by rw [World.setCells]; exact j5E b r (o+1) _ (h.setCell hb _) hb
theorem x1C {F:Fence} {n:Nat} {P:Program} {ops:Array Oper} {rest:List Oper} {op:Oper} {a:Act} {w wr:World} {Q:Exit->Act->World->Prop} (hgd:op.guard=none) (ty:TypeId) (x y:Operand) (ho:op.op = .store ty x y)
  (zs cells:Array Value) (t:TypeId) (hw:w=wr.alloc (.cells zs t)) (hx:a.eval x = .pointer (some ⟨wr.heap.size,0,none⟩)) (hy:a.eval y = .agg cells) (hs:cells.size=zs.size)
  (hi:(P.info? ty).map (·.size)=some cells.size) (h1:cells.all (·.oneCell')=true)
  (h:∀ W2,Below wr.heap.size wr W2->W2.rangeAt wr.heap.size 0 cells.toList->wpListIn F n P ops Q rest (a.put op.dst undef) W2):wpListIn F n P ops Q (op :: rest) a w:=by
 subst hw;have ht:(wr.alloc (.cells zs t)).there wr.heap.size 0 cells.size:=fun j hj=>by
  have hj':j<zs.size:=by omega
  have hfz:∀ (W:World) (b i:Nat),W.heap[b]? = some (.cells zs t)->W.frozen? ⟨b,i,none⟩=false:=fun W b i h=>by simp [World.frozen?,h]
  refine ⟨?_,hfz _ _ _ (alloc_at _ _)⟩
  rw [Nat.zero_add,cell_at (alloc_at wr (.cells zs t)) (Array.getElem?_eq_getElem hj')]
  rfl
 refine wpListIn_plain hgd fun K hK=> ?_;unfold Oper.wpIn;refine ⟨?_,?_⟩
 ·
  simp [Oper.about,ho]
 ·
  rw [Oper.semAt_plain F _ _ (by rw [ho]; intro c hc'; cases hc')];simp only [execOp,ho,hx,hy,Instr.storeAt,Instr.sureAddr,Sem.run_bind,Sem.run_pure,Result.andThen_ok,run_storeVar_mid _ wr.heap.size 0 ty cells ht hi h1];exact hK _ _ (h _ (j5E _ _ _ _ (z1B _) (Nat.le_refl _)) (World.rangeAt_setCells_same _ _ _ _ (by simpa using ht)))
end Go.Proofs.YtmjaepdplbgohaaGreatDoor.Kd
namespace Go.Proofs.YtmjaepdplbgohaaGreatDoor.Kd
open Go.RowKit Go.Shelf
attribute [local go_sem] Oper.semAt_some
def x2B (step:Nat->Nd->Nat->Nat->Option Nat):(n:Nat)->Pl n->Nat->Nat->Option Nat
 | 0,_,_,_=>none
 | n+1,p,ar,c=>p.kids.foldl (fun acc k=>acc.bind fun c=>x2B step n k (ar+1) c) (step c p.nd p.kids.length ar)
def k1V (step:Nat->Nd->Nat->Nat->Option Nat) (n:Nat) (l:List (Pl n)) (ar:Nat) (a:Option Nat):Option Nat:=l.foldl (fun acc k=>acc.bind fun c=>x2B step n k ar c) a
theorem k1P (step:Nat->Nd->Nat->Nat->Option Nat) (n:Nat) (l:List (Pl n)) (ar:Nat):k1V step n l ar none=none:=by
 induction l with
 | nil=>rfl
 | cons x l ih=>exact ih
theorem z2F (step:Nat->Nd->Nat->Nat->Option Nat) (n:Nat) (p:Pl (n+1)) (ar c:Nat):x2B step (n+1) p ar c=k1V step n p.kids (ar+1) (step c p.nd p.kids.length ar):=rfl
theorem z3V (step:Nat->Nd->Nat->Nat->Option Nat) (n:Nat) (l:List (Pl n)) (ar:Nat) (a:Option Nat) (k:Nat) (hk:k<l.length):k1V step n (l.take (k+1)) ar a=(k1V step n (l.take k) ar a).bind fun c=>x2B step n l[k] ar c:=by
 unfold k1V;rw [List.take_succ_eq_append_getElem hk,List.foldl_append];rfl
theorem v4Y (step:Nat->Nd->Nat->Nat->Option Nat) (n:Nat) (l:List (Pl n)) (ar:Nat) (a:Option Nat) (k:Nat) (h:k1V step n (l.take k) ar a=none):k1V step n l ar a=none:=by
 unfold k1V at h ⊢;rw [<-List.take_append_drop k l,List.foldl_append,h];exact k1P step n _ ar
def z3D (n1:Nat) (W W':World):Prop:=W.heap.size<=W'.heap.size/\∀ b,n1<=b->b<W.heap.size->W'.heap[b]? = W.heap[b]?
theorem z3D.trans {n1:Nat} {A B C:World} (h:z3D n1 A B) (k:z3D n1 B C):z3D n1 A C:=⟨Nat.le_trans h.1 k.1,fun b h1 h2=>(k.2 b h1 (Nat.lt_of_lt_of_le h2 h.1)).trans (h.2 b h1 h2)⟩
theorem z3D.alloc (n1:Nat) (W:World) (o:Obj):z3D n1 W (W.alloc o):=⟨(z1B o).size,fun b _ h=>(z1B o).block b h⟩
theorem z3D.of {W W':World} (n1:Nat) (h:Below W.heap.size W W'):z3D n1 W W':=⟨h.size,fun b _ hb=>h.block b hb⟩
theorem z3D.at {n1 b:Nat} {W W':World} {o:Obj} (h:z3D n1 W W') (hb:n1<=b) (k:W.heap[b]? = some o):W'.heap[b]? = some o:=(h.2 b hb (Array.getElem?_eq_some_iff.1 k).1).trans k
def x6I (F:Fence) (l:Nat) (n1:Nat) (w0:World) (pa:Addr) (J:Nat->World->Prop) (X:World->Prop) (step:Nat->Nd->Nat->Nat->Option Nat):Prop:=
 ∀ (m c ar:Nat) (d:Nd) (vc vk:Value) (da:Option Addr) (kn dc:Nat) (W:World),n1<=W.heap.size->J c W->Below w0.heap.size w0 W->q1J w0 vc d.cs->RawInts w0 vk d.ks->d.cs.length<=140737488355328->d.ks.length<=140737488355328 →
  YieldAt F m Tryz.prog l #[.agg (z1J d vc vk (.slice da kn dc)).toArray,.int .i64 ar] W fun e W'=>(∃ c',step c d kn ar=some c'/\e = .returned (.bool true)/\J c' W'/\Below w0.heap.size w0 W'/\z3D n1 W W')\/(step c d kn ar=none/\e = .panicked [{ v:=.iface 248 (.pointer (some pa)),recovered:=false }]/\X W')
theorem k3R (F:Fence) (hd:F.depth=none) (hf:F.fn 141) (hro:F.round=none) (l:Nat) (n1:Nat) (w0:World) (pa:Addr) (J:Nat->World->Prop) (X:World->Prop) (step:Nat->Nd->Nat->Nat->Option Nat)
  (hJ:∀ c W W',J c W->Below w0.heap.size w0 W->Below W.heap.size W W'->J c W') (hY:x6I F l n1 w0 pa J X step):∀ (n:Nat) (m c ar:Nat) (p:Pl (n+1)) (vc vk:Value) (da:Option Addr) (dc:Nat) (W:World),n1<=W.heap.size->J c W->Below w0.heap.size w0 W->q1X (NodeAt n) w0 p.nd p.kids vc vk (.slice da p.kids.length dc)->Pl.sz (n+1) p<=1048576->ar+n<=1048576 →
  CallsIn F m Tryz.prog 141 #[.agg (z1J p.nd vc vk (.slice da p.kids.length dc)).toArray,.int .i64 ar,.func (.yield l) #[] #[]] W fun e W'=>(∃ c',x2B step (n+1) p ar c=some c'/\e = .returned (.bool true)/\J c' W'/\Below w0.heap.size w0 W'/\z3D n1 W W')\/(x2B step (n+1) p ar c=none/\e = .panicked [{ v:=.iface 248 (.pointer (some pa)),recovered:=false }]/\X W'):=by
 intro n;induction n with
 | zero=>
  intro m c ar p vc vk da dc W hn1 hj hw hp hz har;obtain ⟨hcs,hks,hkd⟩:=hp;have hdd:∀ k:Nat,(F.depth.isSome=true->1<=k):=fun k h=>by rw [hd] at h; cases h
  have hla:(Tryz.prog.info? 31).map (·.size)=some (z1J p.nd vc vk (.slice da p.kids.length dc)).length:=by kernel_rfl
  have HA:Hid ((W.alloc (.cells (z1J p.nd vc vk (.slice da p.kids.length dc)).toArray 31)).rangeAt W.heap.size 0 (z1J p.nd vc vk (.slice da p.kids.length dc))):=j1B (alloc_at _ _);have hsz:=Pl.sz_succ p;have HB1:Hid (Below w0.heap.size w0 (W.alloc (.cells (z1J p.nd vc vk (.slice da p.kids.length dc)).toArray 31))):=hw.trans ((z1B _).mono hw.size);have HK1:Hid (z3D n1 W (W.alloc (.cells (z1J p.nd vc vk (.slice da p.kids.length dc)).toArray 31))):=z3D.alloc _ _ _;have hy0:=YieldAt.mono (hY (m - 1) c ar p.nd vc vk da p.kids.length dc _ (Nat.le_trans hn1 HK1.out.1) (hJ c _ _ hj hw (z1B _)) HB1.out hcs hks (by omega) (by omega)) (R':=fun e W2=>(∃ c',Hid (step c p.nd p.kids.length ar=some c')/\e = .returned (.bool true)/\Hid (J c' W2)/\Hid (Below w0.heap.size w0 W2)/\Hid (z3D n1 W W2)/\W2.cell? ⟨W.heap.size,18,none⟩=some (.slice da p.kids.length dc))\/(Hid (step c p.nd p.kids.length ar=none)/\e = .panicked [{ v:=.iface 248 (.pointer (some pa)),recovered:=false }]/\Hid (X W2)))
   (fun e W2 h=>h.elim (fun ⟨c',a1,a2,a3,a4,a5⟩=> .inl ⟨c',a1,a2,a3,a4,HK1.out.trans a5,cell_at (a5.at hn1 (alloc_at _ _)) rfl⟩) (fun ⟨a1,a2,a3⟩=> .inr ⟨a1,a2,a3⟩))
  obtain ⟨fn,tmps,assign,body,hy,hR⟩:=hy0;have HKD:Hid (v2X (NodeAt 0) w0 (.slice da p.kids.length dc) p.kids):=hkd;clear hkd hcs hks hj hw;refine callsIn_of_wp Tryz.func141 rfl hf ?_ hro;simp only [Tryz.ntmps141,List.size_toArray,List.length_cons,List.length_nil,Nat.reduceAdd,Nat.reduceSub,Array.replicate_succ,Array.replicate_zero,List.push_toArray,List.append_toArray,List.nil_append,List.cons_append];gi_wp2_with (first | refine z1S rfl 31 _ rfl W.heap.size 0 rfl _ _ HA.out Tryz.underlying31 rfl hla ?_ | ((try refine ⟨hdd _,?_⟩); refine hR.mono ?_; clear hR; rintro e W2 (⟨c2,HS2,rfl,HJ2,HW2,HK2,hcell⟩ | ⟨HS2,rfl,HW2⟩)))
  ·
   clear hy;gi_loopw [17] (fun i wr=> ∃ k c3:Nat,k<=p.kids.length/\i = .int .i64 k/\Hid (J c3 wr)/\Hid (Below w0.heap.size w0 wr)/\Hid (z3D n1 W wr)/\Hid (k1V step 0 (p.kids.take k) (ar+1) (some c2)=some c3)) (fun i _=>p.kids.length - (intOf i).toNat)
   case atStart=>exact ⟨0,c2,Nat.zero_le _,rfl,HJ2.out,HW2.out,HK2.out,rfl⟩
   case round=>
    obtain ⟨k,c3,hk,rfl,HJ3,HW3,HK3,HR3⟩:=hrel;by_cases hlt:k<p.kids.length
    ·
     cases p.kids[k]
    ·
     have e:k=p.kids.length:=by omega
     subst e;gi_wp2;go_ret;exact .inl ⟨c3,by rw [z2F,HS2.out]; have:=HR3.out; rwa [List.take_length] at this,rfl,HJ3.out,HW3.out,HK3.out⟩
  ·
   exact ⟨rfl,.inr ⟨by rw [z2F,HS2.out]; exact k1P _ _ _ _,rfl,HW2.out⟩⟩
 | succ n ih=>
  intro m c ar p vc vk da dc W hn1 hj hw hp hz har;obtain ⟨hcs,hks,hkd⟩:=hp;have hdd:∀ k:Nat,(F.depth.isSome=true->1<=k):=fun k h=>by rw [hd] at h; cases h
  have hla:(Tryz.prog.info? 31).map (·.size)=some (z1J p.nd vc vk (.slice da p.kids.length dc)).length:=by kernel_rfl
  have HA:Hid ((W.alloc (.cells (z1J p.nd vc vk (.slice da p.kids.length dc)).toArray 31)).rangeAt W.heap.size 0 (z1J p.nd vc vk (.slice da p.kids.length dc))):=j1B (alloc_at _ _);have hsz:=Pl.sz_succ p;have HB1:Hid (Below w0.heap.size w0 (W.alloc (.cells (z1J p.nd vc vk (.slice da p.kids.length dc)).toArray 31))):=hw.trans ((z1B _).mono hw.size);have HK1:Hid (z3D n1 W (W.alloc (.cells (z1J p.nd vc vk (.slice da p.kids.length dc)).toArray 31))):=z3D.alloc _ _ _;have hy0:=YieldAt.mono (hY (m - 1) c ar p.nd vc vk da p.kids.length dc _ (Nat.le_trans hn1 HK1.out.1) (hJ c _ _ hj hw (z1B _)) HB1.out hcs hks (by omega) (by omega)) (R':=fun e W2=>(∃ c',Hid (step c p.nd p.kids.length ar=some c')/\e = .returned (.bool true)/\Hid (J c' W2)/\Hid (Below w0.heap.size w0 W2)/\Hid (z3D n1 W W2)/\W2.cell? ⟨W.heap.size,18,none⟩=some (.slice da p.kids.length dc))\/(Hid (step c p.nd p.kids.length ar=none)/\e = .panicked [{ v:=.iface 248 (.pointer (some pa)),recovered:=false }]/\Hid (X W2)))
   (fun e W2 h=>h.elim (fun ⟨c',a1,a2,a3,a4,a5⟩=> .inl ⟨c',a1,a2,a3,a4,HK1.out.trans a5,cell_at (a5.at hn1 (alloc_at _ _)) rfl⟩) (fun ⟨a1,a2,a3⟩=> .inr ⟨a1,a2,a3⟩))
  obtain ⟨fn,tmps,assign,body,hy,hR⟩:=hy0;have HKD:Hid (v2X (NodeAt (n+1)) w0 (.slice da p.kids.length dc) p.kids):=hkd;clear hkd hcs hks hj hw;refine callsIn_of_wp Tryz.func141 rfl hf ?_ hro;simp only [Tryz.ntmps141,List.size_toArray,List.length_cons,List.length_nil,Nat.reduceAdd,Nat.reduceSub,Array.replicate_succ,Array.replicate_zero,List.push_toArray,List.append_toArray,List.nil_append,List.cons_append];gi_wp2_with (first | refine z1S rfl 31 _ rfl W.heap.size 0 rfl _ _ HA.out Tryz.underlying31 rfl hla ?_ | ((try refine ⟨hdd _,?_⟩); refine hR.mono ?_; clear hR; rintro e W2 (⟨c2,HS2,rfl,HJ2,HW2,HK2,hcell⟩ | ⟨HS2,rfl,HW2⟩)))
  ·
   clear hy;gi_loopw [17] (fun i wr=> ∃ k c3:Nat,k<=p.kids.length/\i = .int .i64 k/\Hid (J c3 wr)/\Hid (Below w0.heap.size w0 wr)/\Hid (z3D n1 W wr)/\Hid (k1V step (n+1) (p.kids.take k) (ar+1) (some c2)=some c3)) (fun i _=>p.kids.length - (intOf i).toNat)
   case atStart=>exact ⟨0,c2,Nat.zero_le _,rfl,HJ2.out,HW2.out,HK2.out,rfl⟩
   case round=>
    obtain ⟨k,c3,hk,rfl,HJ3,HW3,HK3,HR3⟩:=hrel;by_cases hlt:k<p.kids.length
    ·
     obtain ⟨-,a0,cap0,heq,-,hcs⟩:=id HKD.out;obtain ⟨kb,ko,rfl,hkb,hnode⟩:=hcs (fun h=>by rw [h] at hlt; exact absurd hlt (Nat.not_lt_zero _));obtain ⟨rfl,-,rfl⟩:da=some ⟨kb,ko,none⟩/\True/\dc=cap0:=by simpa using heq
     obtain ⟨x,HX⟩:∃ x,Hid (x=p.kids[k]):=⟨p.kids[k],Eq.refl p.kids[k]⟩;have hnd:=hnode k hlt;rw [<-HX.out] at hnd;obtain ⟨_,xc,xk,xv,hfl,hpr⟩:=hnd;obtain ⟨_,xa,xd,rfl,_⟩:=id hpr.2.2;obtain ⟨_,xca,xcc,rfl,_⟩:=id hpr.1;obtain ⟨_,xka,xkc,rfl,_⟩:=id hpr.2.1;have HPR:Hid (q1X (NodeAt n) w0 x.nd x.kids (.slice xca x.nd.cs.length xcc) (.slice xka x.nd.ks.length xkc) (.slice xa x.kids.length xd)):=hpr;have HRX:Hid (wr.rangeAt kb (ko+k*19) (p19 x xca xcc xka xkc xa xd)):=fun j v hv=>(HW3.out.cell (p:=⟨kb,ko+k*19+j,none⟩) hkb).trans (hfl.range j v hv);have hlx:(Tryz.prog.info? 31).map (·.size)=some (p19 x xca xcc xka xkc xa xd).length:=by kernel_rfl
     have h1x:(p19 x xca xcc xka xkc xa xd).toArray.all (·.oneCell')=true:=by simp [Value.oneCell']
     have hix:(Tryz.prog.info? 31).map (·.size)=some (p19 x xca xcc xka xkc xa xd).toArray.size:=by kernel_rfl
     have hszx:Pl.sz (n+1) x<=1048576:=by
      have h1:=k1B hlt;rw [<-HX.out] at h1;unfold k1X at h1;omega
     have ihx:=fun W5 (hb5:Below wr.heap.size wr W5)=>(ih (m - 1) c3 (ar+1) x (.slice xca x.nd.cs.length xcc) (.slice xka x.nd.ks.length xkc) xa xd W5 (Nat.le_trans hn1 (Nat.le_trans HK3.out.1 hb5.size)) (hJ _ _ _ HJ3.out HW3.out hb5) (HW3.out.trans (hb5.mono HW3.out.size)) HPR.out hszx (by omega)).mono (R':=fun e W4=>(∃ c4,Hid (x2B step (n+1) x (ar+1) c3=some c4)/\e = .returned (.bool true)/\Hid (J c4 W4)/\Hid (Below w0.heap.size w0 W4)/\Hid (z3D n1 W W4))\/(Hid (x2B step (n+1) x (ar+1) c3=none)/\e = .panicked [{ v:=.iface 248 (.pointer (some pa)),recovered:=false }]/\Hid (X W4)))
      (fun e W4 h=>h.elim (fun ⟨c',a1,a2,a3,a4,a5⟩=> .inl ⟨c',a1,a2,a3,a4,HK3.out.trans ((z3D.of n1 hb5).trans a5)⟩) (fun ⟨a1,a2,a3⟩=> .inr ⟨a1,a2,a3⟩))
     clear hfl hpr hnode heq hcs ih;gi_wp2_with (first | refine z1S rfl 31 _ rfl kb (ko+k*19) rfl _ _ HRX.out Tryz.underlying31 rfl hlx ?_ | refine z1S rfl 31 _ rfl wr.heap.size 0 rfl _ _ hr5 Tryz.underlying31 rfl hlx ?_ | (refine x1C rfl 31 _ _ rfl _ (p19 x xca xcc xka xkc xa xd).toArray _ (Eq.refl (wr.alloc _)) rfl rfl rfl hix h1x ?_; intro W5 hb5 hr5) | ((try refine ⟨hdd _,?_⟩); gi_at_call 141; refine (ihx _ hb5).mono ?_; clear ihx; rintro e W4 (⟨c4,HS4,rfl,HJ4,HW4,HK4⟩ | ⟨HS4,rfl,HW4⟩)))
     ·
      refine ⟨⟨k+1,c4,by omega,by go_num,HJ4.out,HW4.out,HK4.out,?_⟩,by simp [intOf]; omega⟩;show _=_;rw [z3V _ _ _ _ _ _ hlt,HR3.out,<-HX.out];exact HS4.out
     ·
      refine ⟨rfl,.inr ⟨?_,rfl,HW4.out⟩⟩;rw [z2F,HS2.out];refine v4Y _ _ _ _ _ (k+1) ?_;rw [z3V _ _ _ _ _ _ hlt,HR3.out,<-HX.out];exact HS4.out
    ·
     have e:k=p.kids.length:=by omega
     subst e;gi_wp2;go_ret;exact .inl ⟨c3,by rw [z2F,HS2.out]; have:=HR3.out; rwa [List.take_length] at this,rfl,HJ3.out,HW3.out,HK3.out⟩
  ·
   exact ⟨rfl,.inr ⟨by rw [z2F,HS2.out]; exact k1P _ _ _ _,rfl,HW2.out⟩⟩
theorem z6N (n:Nat) (p:Pl (n+1)) (vc vk:Value) (da:Option Addr) (dc:Nat) (w:World) :
  Calls Tryz.prog 89 #[.agg (z1J p.nd vc vk (.slice da p.kids.length dc)).toArray] w fun e w'=>e = .returned (.func (.func 140) #[] #[.pointer (some ⟨w.heap.size,0,none⟩)])/\w'=w.alloc (.cells (z1J p.nd vc vk (.slice da p.kids.length dc)).toArray 31):=by
 have hmf:∀ (fn:Fn) (first cap:Array Value) (w:World),(Instr.makeFunc fn first cap).run Tryz.prog w = .ok (.func fn first cap) w:=fun _ _ _ _=>rfl;go_enter Tryz.func89,Tryz.ntmps89;go_wp2_with fail;go_ret;exact ⟨rfl,rfl⟩
theorem z6O (F:Fence) (hd:F.depth=none) (hf:F.fn 141) (hf1:F.fn 140) (hro:F.round=none) (l:Nat) (n1:Nat) (w0:World) (pa:Addr) (J:Nat->World->Prop) (X:World->Prop) (step:Nat->Nd->Nat->Nat->Option Nat)
  (hJ:∀ c W W',J c W->Below w0.heap.size w0 W->Below W.heap.size W W'->J c W') (hY:x6I F l n1 w0 pa J X step) (n m c b:Nat) (p:Pl (n+1)) (vc vk:Value) (da:Option Addr) (dc:Nat) (W:World) (hb:W.heap[b]? = some (.cells (z1J p.nd vc vk (.slice da p.kids.length dc)).toArray 31))
  (hn1:n1<=W.heap.size) (hj:J c W) (hw:Below w0.heap.size w0 W) (hp:q1X (NodeAt n) w0 p.nd p.kids vc vk (.slice da p.kids.length dc)) (hz:Pl.sz (n+1) p<=1048576) (hn:n<=1048576) :
  CallsIn F m Tryz.prog 140 #[.func (.yield l) #[] #[],.pointer (some ⟨b,0,none⟩)] W fun e W'=>(∃ c',x2B step (n+1) p 0 c=some c'/\e = .returned (.tuple #[])/\J c' W'/\Below w0.heap.size w0 W'/\z3D n1 W W')\/(x2B step (n+1) p 0 c=none/\e = .panicked [{ v:=.iface 248 (.pointer (some pa)),recovered:=false }]/\X W'):=by
 have hdd:∀ k:Nat,(F.depth.isSome=true->1<=k):=fun k h=>by rw [hd] at h; cases h
 have hla:(Tryz.prog.info? 31).map (·.size)=some (z1J p.nd vc vk (.slice da p.kids.length dc)).length:=by kernel_rfl
 have HA:Hid (W.rangeAt b 0 (z1J p.nd vc vk (.slice da p.kids.length dc))):=j1B hb;have hy:=(k3R F hd hf hro l n1 w0 pa J X step hJ hY n (m - 1) c 0 p vc vk da dc W hn1 hj hw hp hz (by omega)).mono (R':=fun e W'=>(∃ c',Hid (x2B step (n+1) p 0 c=some c')/\e = .returned (.bool true)/\Hid (J c' W')/\Hid (Below w0.heap.size w0 W')/\Hid (z3D n1 W W'))\/(Hid (x2B step (n+1) p 0 c=none)/\e = .panicked [{ v:=.iface 248 (.pointer (some pa)),recovered:=false }]/\Hid (X W')))
  (fun e W' h=>h)
 clear hb hp hj hw;refine callsIn_of_wp Tryz.func140 rfl hf1 ?_ hro;simp only [Tryz.ntmps140,List.size_toArray,List.length_cons,List.length_nil,Nat.reduceAdd,Nat.reduceSub,Array.replicate_succ,Array.replicate_zero,List.push_toArray,List.append_toArray,List.nil_append,List.cons_append];gi_wp2_with (first | refine z1S rfl 31 _ rfl b 0 rfl _ _ HA.out Tryz.underlying31 rfl hla ?_ | ((try refine ⟨hdd _,?_⟩); gi_at_call 141; refine hy.mono ?_; clear hy; rintro e W2 (⟨c2,HS2,rfl,HJ2,HW2,HK2⟩ | ⟨HS2,rfl,HW2⟩)))
 ·
  go_end0;exact .inl ⟨c2,HS2.out,rfl,HJ2.out,HW2.out,HK2.out⟩
 ·
  exact ⟨rfl,.inr ⟨HS2.out,rfl,HW2.out⟩⟩
end Go.Proofs.YtmjaepdplbgohaaGreatDoor.Kd
namespace Go.Proofs.YtmjaepdplbgohaaGreatDoor
open Go.RowKit
def v3W (P:Program) (l:Nat) (R:Ending->World->Prop):Exit->Act->World->Prop
 | .normal,_,w=> ∃ v w',(Instr.endRound l none).run P w = .ok v w'/\R (.returned v) w'
 | .ret,_,w=> ∃ v w',(Instr.endRound l (some .ret)).run P w = .ok v w'/\R (.returned v) w'
 | .exit id,_,w=> ∃ v w',(Instr.endRound l (some (.exit id))).run P w = .ok v w'/\R (.returned v) w'
 | .goto t,_,w=> ∃ v w',(Instr.endRound l (some (.goto t))).run P w = .ok v w'/\R (.returned v) w'
 | .panic chain,a,w=>a.defers=[]/\R (.panicked chain) w
 | .outgrown,_,_=>False
theorem j4J {F:Fence} {n:Nat} {P:Program} {l:Nat} {f:FuncId} {tmps:Array Value} {assign body:Code} {w:World} {R:Ending->World->Prop} (hF:F.fn f) (hfn:∃ fn,P.funcs[f]? = some fn)
  (h:assign.wpIn (F.inRound l) n P (Exit.then (fun a₁ w₁=> ∃ w₂,(Instr.beginRound l).run P w₁ = .ok () w₂/\body.wpIn (F.inRound l) n P (v3W P l R) a₁ w₂) (fun _ _ _=>False))
   { tmps:=tmps,defers:=[] } w) :
  RoundIn F n P l f tmps assign body w R:=by
 refine ⟨hF,fun c cs hr=> ?_⟩;let b:Frame:={ (default:Frame) with fn:=f,kind:=.normal,roundOf:=some l };have hb0:Frame.round l f tmps assign body .normal=b.atR { tmps:=tmps,defers:=[] } [.code assign,.beginRound,.code body]:=by
  simp [Frame.round,Frame.atR,b]
 have hr':(F.inRound l).room ((c :: cs).length+1+n):=hr;have hF':(F.inRound l).fn b.fn:=hF;obtain ⟨e,a₁,w₁,hq,harr⟩:=h b [.beginRound,.code body] (c :: cs) rfl hF' hr';rw [<-hb0] at harr;cases e with
 | normal=>
  obtain ⟨w₂,hbr,hbody⟩:=hq;have s1:StepsIn (Machine.fenced P (F.inRound l)) P (lone (b.atR a₁ [.beginRound,.code body]) (c :: cs) w₁) (lone (b.atR a₁ [.code body]) (c :: cs) w₂):=
   .one (fenced_calm (fr:=b.atR a₁ [.beginRound,.code body]) hF' hr' rfl) (stepR_beginRound rfl hbr)
  obtain ⟨e₂,a₂,w₃,hq₂,harr₂⟩:=hbody b [] (c :: cs) rfl hF' hr';cases e₂ with
  | normal=>
   obtain ⟨v,w₄,hend,hR⟩:=hq₂;exact ⟨.returned v,w₄,hR,(StepsIn.trans harr s1).trans (StepsIn.trans harr₂ (.one (fenced_calm (fr:=b.atR a₂ []) hF' hr' rfl) (stepR_round_end rfl rfl hend)))⟩
  | ret=>
   obtain ⟨v,w₄,hend,hR⟩:=hq₂;obtain ⟨k₁,hs⟩:=harr₂.2 rfl;exact ⟨.returned v,w₄,hR,(StepsIn.trans harr s1).trans (StepsIn.trans hs (.one (fenced_calm (fr:=b.atR a₂ (.code .ret :: k₁)) hF' hr' rfl) (stepR_round_ret rfl rfl hend)))⟩
  | exit id=>
   obtain ⟨v,w₄,hend,hR⟩:=hq₂;obtain ⟨k₁,hk,hs⟩:=harr₂.2 rfl rfl;exact ⟨.returned v,w₄,hR,(StepsIn.trans harr s1).trans (StepsIn.trans hs (.one (fenced_calm (fr:=b.atR a₂ (.code (.exit id) :: k₁)) hF' hr' rfl) (stepR_round_exit rfl rfl hk hend)))⟩
  | goto t=>
   obtain ⟨v,w₄,hend,hR⟩:=hq₂;obtain ⟨k₁,hk,hs⟩:=harr₂.2 rfl rfl;exact ⟨.returned v,w₄,hR,(StepsIn.trans harr s1).trans (StepsIn.trans hs (.one (fenced_calm (fr:=b.atR a₂ (.code (.goto t) :: k₁)) hF' hr' rfl) (stepR_round_goto rfl rfl hk hend)))⟩
  | panic chain=>
   obtain ⟨hd,hR⟩:=hq₂;obtain ⟨todo,hs⟩:=harr₂;obtain ⟨fn,hfn⟩:=hfn;have hlv:({ b.atR a₂ todo with mode:=.panicking chain }:Frame).leaving P w₃ (.panicked chain):=⟨rfl,by simpa [Frame.atR] using hd,fn,hfn⟩;exact ⟨.panicked chain,w₃,hR,(StepsIn.trans harr s1).trans (StepsIn.trans hs (.one (fenced_leaving hF' hr' hlv) (step_leave_panicked hlv)))⟩
  | outgrown=>exact hq₂.elim
 | exit id=>exact hq.elim
 | goto t=>exact hq.elim
 | ret=>exact hq.elim
 | panic chain=>exact hq.elim
 | outgrown=>exact hq.elim
theorem q3E {P:Program} {ops:Array Oper} {Q:Exit->Act->World->Prop} (r:Nat) (n:Nat) (hnd:∀ (i:Nat) (o:Oper),ops[i]? = some o->∀ c,o.op≠.defer c) (hQ:¬ LetsOut Q) :
  ∀ (l:List Nat) (a:Act) (w:World),wpOps P ops Q l a w->wpOpsIn (Fence.wide.inRound r) n P ops Q l a w:=by
 intro l;induction l with
 | nil=>exact fun a w h=>h
 | cons i rest ih=>
  intro a w h;simp only [wpOps,wpOpsIn] at h ⊢;cases ho:ops[i]? with
  | none=>simp only [ho] at h ⊢; exact ih a w h
  | some o=>
   simp only [ho] at h ⊢;by_cases hw:Region.wanted o (yielded ops a.tmps)=true
   ·
    simp only [hw,if_true] at h ⊢;replace h:=h.resolve_right (fun x=>hQ x.2);refine ⟨fun _ _=>trivial,?_⟩;rw [Oper.semAt_eq _ _ _ (hnd i o ho)];unfold Oper.wp at h;generalize (execOp a.eval o).run P w=res at h;cases res with
    | ok x w'=>
     cases x <;> simp only [Oper.upon,Oper.uponIn] at h ⊢;all_goals first
      | exact ih _ _ h
      | exact ⟨fun hh=>(by cases hh),callsIn_wide.2 (Calls.mono h (fun e w'' he=>by cases e <;> first | exact ih _ _ he | exact he))⟩
      | exact ⟨fun hh=>(by cases hh),fun c cs _=>(by obtain ⟨v,w'',hr,hs⟩:=h c cs; exact ⟨v,w'',ih _ _ hr,stepsIn_wide.2 hs⟩)⟩
      | exact h.elim
    | halt x w'=>cases x <;> simp only [Oper.upon,Oper.uponIn] at h ⊢ <;> exact h
   ·
    simp only [hw,Bool.false_eq_true,if_false] at h ⊢;exact ⟨fun _ _=>trivial,ih _ _ h⟩
theorem j2S {P:Program} {ops:Array Oper} {Q:Exit->Act->World->Prop} {S:World->Prop} {r n id:Nat} {a:Act} {w:World} (hnd:∀ (i:Nat) (o:Oper),ops[i]? = some o->∀ c,o.op≠.defer c) (hQ:¬ LetsOut Q) (hm:P.follows .mixedOrders=true) (hS:S w.drew)
  (h:S w.drew->wpAnyH P .any ops Q S ops.size (Array.replicate ops.size false) a w.drew):(Code.region id ops true).wpIn (Fence.wide.inRound r) n P Q a w:=
 wpIn_region_draw fun t=>by
  simp only [Region.schedule,hm,Bool.true_or,if_true]
  exact q3E r n hnd hQ _ _ _ (wpAny_sound ops.size t _ a _ (wpAny_of_held _ _ _ _ (h hS)))
def noOut (Q:Exit->Act->World->Prop):Exit->Act->World->Prop:=fun e a w=>e≠.outgrown/\Q e a w
def z6W (o:Oper):Bool:=match o.op with | .defer _=>false | _=>true
theorem z2M {P:Program} {ops:Array Oper} {Q:Exit->Act->World->Prop} {S:World->Prop} {r n id:Nat} {a:Act} {w:World} (hnd:ops.all z6W=true) (hm:P.follows .mixedOrders=true) (hS:S w.drew)
  (h:S w.drew->wpAnyH P .any ops (noOut Q) S ops.size (Array.replicate ops.size false) a w.drew):(Code.region id ops true).wpIn (Fence.wide.inRound r) n P Q a w:=
 wpIn_mono (j2S (Q:=noOut Q) (S:=S) (fun i o ho c hc=>by
  have:=Array.all_eq_true_iff_forall_mem.1 hnd o (Array.mem_of_getElem? ho)
  simp [z6W,hc] at this) (fun ⟨a,w,h⟩=>h.1 rfl) hm hS h) (fun e a w h=>h.2)
end Go.Proofs.YtmjaepdplbgohaaGreatDoor
namespace Go.Proofs.YtmjaepdplbgohaaGreatDoor.Kd
open Go.RowKit
theorem hidden {p:Prop} (h:p):Hid p:=h
theorem q5G {w:World} {base:Nat} {e:TypeId} {g n:Nat} {xs:List Value} (h:w.ownsRow base e 1 (.slice (some ⟨g,0,none⟩) n n) n xs):w.heap[g]? = some (.cells xs.toArray e (0,0)):=by
 obtain ⟨hl,(⟨h1,-⟩ | ⟨g',cap,cur,hv,-,hg,-,-,hs,ht⟩)⟩:=h
 ·
  cases h1
 ·
  simp only [Value.slice.injEq,Option.some.injEq,Addr.mk.injEq] at hv;obtain ⟨⟨rfl,-,-⟩,-,rfl⟩:=hv;rw [hg];congr;rw [List.take_of_length_le (by simp [hs])] at ht;rw [<-ht]
theorem own_one {w:World} {base g:Nat} {e:TypeId} (h:w.ownsRow base e 1 (.slice (some ⟨g,0,none⟩) 1 1) 1 (madeCells (Value.int .i64 0).cells (1*1)).toList):w.heap[g]? = some (.cells ([.int .i64 0]:List Value).toArray e (0,0)):=by
 have:=q5G h;simpa [madeCells,Value.cells] using this
theorem own_two {w:World} {base g:Nat} {e:TypeId} (h:w.ownsRow base e 1 (.slice (some ⟨g,0,none⟩) 2 2) 2 (madeCells (Value.int .i64 0).cells (2*1)).toList):w.heap[g]? = some (.cells ([.int .i64 0,.int .i64 0]:List Value).toArray e (0,0)):=by
 have:=q5G h;simpa [madeCells,Value.cells,List.range_succ] using this
theorem infoInt1:(Tryz.prog.info? 3).map (fun i=>(i.zero,i.size,i.bytes))=some (some (.int .i64 0),1,8):=by kernel_rfl
theorem rep_0 (b:Nat) (t:TypeId) (w:World):Calls Tryz.prog 91 #[.slice (some ⟨b,0,none⟩) 1 1,.int .i64 0] w fun e w'=> ∃ v,e = .returned v/\Below w.heap.size w w':=by
 obtain ⟨i0,hi,hz0,hz1,hz2⟩:=info_parts infoInt1;go_enter Tryz.func91,Tryz.ntmps91;go_wp2_with (first | (go_at_call 142; refine (mul_0 _).mono ?_; rintro e w1 ⟨rfl,hw1⟩; obtain rfl:=hw1.symm) | (at_make; refine wpList_make_full _ rfl _ _ 28 rfl w.heap.size 3 i0 (.int .i64 0) 1 Tryz.underlying28 hi hz0 hz1 _ _ _ _ 0 rfl rfl rfl rfl (by rw [hz2]; omega) (by unfold maxLen; omega) (Nat.le_refl _) ?_; intro w1 hown1 hgrow1) | (refine wpList_copy_nothing rfl (.tmp 31) (.tmp 32) 28 28 rfl 3 Tryz.underlying28 (by kernel_rfl) _ _ _ _ _ _ rfl rfl rfl ?_));go_rounds 1;have HB1:Below w.heap.size w w1:=(Below.refl _ _).grown hgrow1 (Nat.le_refl _) (by simp);go_ret;exact ⟨_,rfl,HB1⟩
theorem rep_1 (b:Nat) (t:TypeId) (w:World) (hb:w.heap[b]? = some (.cells #[.int .i64 6] t)):Calls Tryz.prog 91 #[.slice (some ⟨b,0,none⟩) 1 1,.int .i64 1] w fun e w'=> ∃ g,e = .returned (.slice (some ⟨g,0,none⟩) 1 1)/\g<w'.heap.size/\w'.cell? ⟨g,0,none⟩=some (.int .i64 6)/\Below w.heap.size w w':=by
 obtain ⟨i0,hi,hz0,hz1,hz2⟩:=info_parts infoInt1;have HX:Hid (w.cell? ⟨b,0,none⟩=some (.int .i64 6)/\b<w.heap.size):=⟨cell_at hb rfl,(Array.getElem?_eq_some_iff.1 hb).1⟩;clear hb;go_enter Tryz.func91,Tryz.ntmps91;go_wp2_with (first | (go_at_call 142; refine (mul_1 _).mono ?_; rintro e w1 ⟨rfl,hw1⟩; obtain rfl:=hw1.symm) | (at_make; refine wpList_make_full _ rfl _ _ 28 rfl w.heap.size 3 i0 (.int .i64 0) 1 Tryz.underlying28 hi hz0 hz1 _ _ _ _ 1 rfl rfl rfl rfl (by rw [hz2]; omega) (by unfold maxLen; omega) (Nat.le_refl _) ?_; intro w1 hown1 hgrow1; have HG1:=hidden (own_one hown1); have HB1:Hid (Below w.heap.size w w1):=(Below.refl _ _).grown hgrow1 (Nat.le_refl _) (by simp); clear hown1 hgrow1) | (refine wpList_copy_splice rfl (.tmp 31) (.tmp 32) 28 28 rfl 3 Tryz.underlying28 (by kernel_rfl) _ _ _ _ _ _ rfl rfl w.heap.size 0 [.int .i64 0] 3 HG1.out [.int .i64 6] rfl (fun _=>⟨rfl,_,rfl,fun j v hv=>(by match j,hv with | 0,hv=>(cases hv; exact (HB1.out.cell (p:=⟨b,0,none⟩) HX.out.2).trans HX.out.1) | j+1,hv=>cases hv)⟩) (by decide) (by simp [Value.oneCell']) w.heap.size w HB1.out (Nat.le_refl _) ?_; intro w2 HG2 hB2; have HB2:=hidden hB2; clear hB2 HB1 HG1));go_rounds 1;go_ret;exact ⟨_,rfl,(Array.getElem?_eq_some_iff.1 HG2.out).1,cell_at HG2.out rfl,HB2.out⟩
theorem copy_two {w:World} {g:Nat} (h:w.heap[g]? = some (.cells (splice [.int .i64 0,.int .i64 0] 0 [.int .i64 6]).toArray 3 (0,0))):(Builtin.copy_ #[28,28] 3 #[.slice (some ⟨g,1,none⟩) 1 1,.slice (some ⟨g,0,none⟩) 1 2]).run Tryz.prog w.drew = .ok (goInt 1) (w.drew.setRow g #[.int .i64 6,.int .i64 6]):=
 run_copy_row (P:=Tryz.prog) w.drew 28 28 3 3 g 1 1 1 ⟨g,0,none⟩ 1 2 (splice [Value.int .i64 0,Value.int .i64 0] 0 [Value.int .i64 6]).toArray 3 [.int .i64 6] Tryz.underlying28 (by kernel_rfl) h rfl (fun j v hv=>by match j,hv with | 0,hv=>(cases hv; exact cell_at (w:=w.drew) h rfl) | j+1,hv=>cases hv) (by decide) (by simp [Value.oneCell'])
theorem row_two {w:World} {g:Nat} (h:w.heap[g]? = some (.cells (splice [.int .i64 0,.int .i64 0] 0 [.int .i64 6]).toArray 3 (0,0))):(w.drew.setRow g #[.int .i64 6,.int .i64 6]).heap[g]? = some (.cells #[.int .i64 6,.int .i64 6] 3):=by
 rw [World.setRow,Array.getElem?_modify];have h':w.drew.heap[g]? = some (.cells (splice [.int .i64 0,.int .i64 0] 0 [.int .i64 6]).toArray 3 (0,0)):=h;simp [h']
theorem rep_2 (b:Nat) (t:TypeId) (w:World) (hb:w.heap[b]? = some (.cells #[.int .i64 6] t)):Calls Tryz.prog 91 #[.slice (some ⟨b,0,none⟩) 1 1,.int .i64 2] w fun e w'=> ∃ g,e = .returned (.slice (some ⟨g,0,none⟩) 2 2)/\g<w'.heap.size/\w'.cell? ⟨g,0,none⟩=some (.int .i64 6)/\w'.cell? ⟨g,1,none⟩=some (.int .i64 6)/\Below w.heap.size w w':=by
 obtain ⟨i0,hi,hz0,hz1,hz2⟩:=info_parts infoInt1;have HX:Hid (w.cell? ⟨b,0,none⟩=some (.int .i64 6)/\b<w.heap.size):=⟨cell_at hb rfl,(Array.getElem?_eq_some_iff.1 hb).1⟩;clear hb;go_enter Tryz.func91,Tryz.ntmps91;go_wp2_with (first | (go_at_call 142; refine (mul_2 _).mono ?_; rintro e w1 ⟨rfl,hw1⟩; obtain rfl:=hw1.symm) | (at_make; refine wpList_make_full _ rfl _ _ 28 rfl w.heap.size 3 i0 (.int .i64 0) 1 Tryz.underlying28 hi hz0 hz1 _ _ _ _ 2 rfl rfl rfl rfl (by rw [hz2]; omega) (by unfold maxLen; omega) (Nat.le_refl _) ?_; intro w1 hown1 hgrow1; have HG1:=hidden (own_two hown1); have HB1:Hid (Below w.heap.size w w1):=(Below.refl _ _).grown hgrow1 (Nat.le_refl _) (by simp); clear hown1 hgrow1) | (refine wpList_copy_splice rfl (.tmp 31) (.tmp 32) 28 28 rfl 3 Tryz.underlying28 (by kernel_rfl) _ _ _ _ _ _ rfl rfl w.heap.size 0 [.int .i64 0,.int .i64 0] 3 HG1.out [.int .i64 6] rfl (fun _=>⟨rfl,_,rfl,fun j v hv=>(by match j,hv with | 0,hv=>(cases hv; exact (HB1.out.cell (p:=⟨b,0,none⟩) HX.out.2).trans HX.out.1) | j+1,hv=>cases hv)⟩) (by decide) (by simp [Value.oneCell']) w.heap.size w HB1.out (Nat.le_refl _) ?_; intro w2 HG2 hB2; have HB2:=hidden hB2; clear hB2 HB1 HG1));have HC2:=hidden (copy_two HG2.out);have HB3:Hid (Below w.heap.size w (w2.drew.setRow w.heap.size #[.int .i64 6,.int .i64 6])):=below_setRow (below_drewN HB2.out 1) (Nat.le_refl _) _;have HG3:Hid ((w2.drew.setRow w.heap.size #[.int .i64 6,.int .i64 6]).heap[w.heap.size]? = some (.cells #[.int .i64 6,.int .i64 6] 3)):=row_two HG2.out;refine wp_loop_rounds 2 ?_;rw [rounds_succ];go_wp2;refine wp_region_held_drew (S:=(fun _=>True)) (by kernel_rfl) ?_ (fun hHeld=> ?_)
 ·
  (try dsimp only); try trivial
 refine tk 0 ?_; simp only [ap];refine tk 1 ?_; simp only [ap];refine tk 2 ?_; simp only [ap];refine tk 3 ?_; simp only [ap];refine tk 4 ?_; simp only [ap];refine tk 5 ?_; simp only [ap];refine tk 6 ?_; simp only [ap];refine r1 7 (fun K hK=> ?_);go_simp;simp [execOp,resolve,invoke,builtin,go_sem,HC2.out];refine hK.out _ _ ?_ (fun hHeld=> ?_)
 ·
  (try dsimp only); try trivial
 clear hK K;try simp only [ap]
 refine tk 8 ?_; simp only [ap];refine tk 9 ?_; simp only [ap];refine dn ?_;go_wp2;rw [rounds_succ];go_wp2;go_ret;exact ⟨_,rfl,(Array.getElem?_eq_some_iff.1 HG3.out).1,cell_at HG3.out rfl,cell_at HG3.out rfl,HB3.out⟩
end Go.Proofs.YtmjaepdplbgohaaGreatDoor.Kd
