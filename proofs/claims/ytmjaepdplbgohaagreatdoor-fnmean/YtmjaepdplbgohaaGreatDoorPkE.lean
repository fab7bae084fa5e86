/- Part of the proof of laws.FnMean: KdMem, KdLow, KdEqual, KdBesides, KindBes, Must, KindOf, KindNone. -/
import Derived.Test.YtmjaepdplbgohaaGreatDoorPkA
import Derived.Deep.MidRow
import Derived.Deep.RegionHeld3
import Derived.Tactics
import Derived.Tactics2
import Derived.Defers
import Derived.Recover
import Derived.Laws.Pointers
import Derived.WalkKit
import Derived.WalkLawsBesides
set_option maxRecDepth 100000
set_option maxHeartbeats 16000000
set_option linter.unusedVariables false
set_option linter.unusedSimpArgs false
namespace Go.Proofs.YtmjaepdplbgohaaGreatDoor.Kd
open Go.RowKit
theorem z1B {w:World} (o:Obj):Below w.heap.size w (w.alloc o):=(Below.refl _ _).alloc (Nat.le_refl _) _
theorem z1A {w a b:World} (h:Below w.heap.size w a) (k:Below a.heap.size a b):Below w.heap.size w b:=h.trans (k.mono h.size)
def RawInts (w:World) (v:Value) (xs:List Int):Prop:=
 xs.length<=9223372036854775807/\∃ (a:Option Addr) (cap:Nat),v = .slice a xs.length cap/\(a=none->cap=0) ∧
  (xs≠[]->∃ b off,a=some ⟨b,off,none⟩/\b<w.heap.size/\∀ j,j<xs.length->w.cell? ⟨b,off+j,none⟩=some (.int .i64 (xs.getD j 0)))/\xs.length<=cap/\cap<=9223372036854775807
theorem RawInts.old {w:World} {v:Value} {xs:List Int} (h:RawInts w v xs):Go.Proofs.YtmjaepdplbgohaaGreatDoor.RawInts w v xs:=⟨h.1,let ⟨a,cap,e,n,c,_⟩:=h.2; ⟨a,cap,e,n,c⟩⟩
theorem RawInts.ints {w:World} {v:Value} {xs:List Int} (h:RawInts w v xs) (hl:xs.length<=140737488355328):z1E w v xs:=h.old.ints hl
theorem RawInts.below {w w':World} {v:Value} {xs:List Int} (h:RawInts w v xs) (hb:Below w.heap.size w w'):RawInts w' v xs:=by
 obtain ⟨hl,a,cap,rfl,hn,hc,h1⟩:=h;refine ⟨hl,a,cap,rfl,hn,fun hne=> ?_,h1⟩;obtain ⟨b,off,rfl,hbl,hcell⟩:=hc hne;exact ⟨b,off,rfl,Nat.lt_of_lt_of_le hbl hb.size,fun j hj=>(hb.cell (p:=⟨b,off+j,none⟩) hbl).trans (hcell j hj)⟩
def Cel.zero:Cel:=⟨0,0,0,0⟩
def x3S (w:World) (b o:Nat) (c:Cel):Prop:=
 w.cell? ⟨b,o,none⟩=some (.int .i64 c.k)/\w.cell? ⟨b,o+1,none⟩=some (.int .i64 c.a)/\w.cell? ⟨b,o+2,none⟩=some (.int .i64 c.b)/\w.cell? ⟨b,o+3,none⟩=some (.int .i64 c.n)
theorem x3S.below {w w':World} {b o:Nat} {c:Cel} (h:x3S w b o c) (hb:Below w.heap.size w w') (hl:b<w.heap.size):x3S w' b o c:=
 ⟨(hb.cell (p:=⟨b,o,none⟩) hl).trans h.1,(hb.cell (p:=⟨b,o+1,none⟩) hl).trans h.2.1,(hb.cell (p:=⟨b,o+2,none⟩) hl).trans h.2.2.1,(hb.cell (p:=⟨b,o+3,none⟩) hl).trans h.2.2.2⟩
def q1J (w:World) (v:Value) (cs:List Cel):Prop:=
 cs.length<=9223372036854775807/\∃ (a:Option Addr) (cap:Nat),v = .slice a cs.length cap/\(a=none->cap=0) ∧
  (cs≠[]->∃ b off,a=some ⟨b,off,none⟩/\b<w.heap.size/\∀ j,j<cs.length->x3S w b (off+j*4) (cs.getD j Cel.zero))
theorem q1J.below {w w':World} {v:Value} {cs:List Cel} (h:q1J w v cs) (hb:Below w.heap.size w w'):q1J w' v cs:=by
 obtain ⟨hl,a,cap,rfl,hn,hc⟩:=h;refine ⟨hl,a,cap,rfl,hn,fun hne=> ?_⟩;obtain ⟨b,off,rfl,hbl,hcell⟩:=hc hne;exact ⟨b,off,rfl,Nat.lt_of_lt_of_le hbl hb.size,fun j hj=>(hcell j hj).below hb hbl⟩
def x2O (w:World) (b o:Nat) (d:Nd) (vc vk vd:Value):Prop:=
 w.cell? ⟨b,o,none⟩=some (.int .i64 d.k)/\w.cell? ⟨b,o+1,none⟩=some (.int .i64 d.n)/\w.cell? ⟨b,o+2,none⟩=some (.int .i64 d.t.k)/\w.cell? ⟨b,o+3,none⟩=some (.bool d.t.no)/\w.cell? ⟨b,o+4,none⟩=some (.int .i64 d.t.l.k)/\w.cell? ⟨b,o+5,none⟩=some (.int .i64 d.t.l.a)/\w.cell? ⟨b,o+6,none⟩=some (.int .i64 d.t.l.b)/\w.cell? ⟨b,o+7,none⟩=some (.int .i64 d.t.l.n)/\w.cell? ⟨b,o+8,none⟩=some (.int .i64 d.t.r.k)/\w.cell? ⟨b,o+9,none⟩=some (.int .i64 d.t.r.a)/\w.cell? ⟨b,o+10,none⟩=some (.int .i64 d.t.r.b)/\w.cell? ⟨b,o+11,none⟩=some (.int .i64 d.t.r.n)/\w.cell? ⟨b,o+12,none⟩=some (vc)/\w.cell? ⟨b,o+13,none⟩=some (.int .i64 d.a)/\w.cell? ⟨b,o+14,none⟩=some (.int .i64 d.b)/\w.cell? ⟨b,o+15,none⟩=some (vk)/\w.cell? ⟨b,o+16,none⟩=some (.int .i64 d.g)/\w.cell? ⟨b,o+17,none⟩=some (.int .i64 d.c)/\w.cell? ⟨b,o+18,none⟩=some (vd)
theorem x2O.below {w w':World} {b o:Nat} {d:Nd} {vc vk vd:Value} (h:x2O w b o d vc vk vd) (hb:Below w.heap.size w w') (hl:b<w.heap.size):x2O w' b o d vc vk vd:=by
 obtain ⟨c0,c1,c2,c3,c4,c5,c6,c7,c8,c9,c10,c11,c12,c13,c14,c15,c16,c17,c18⟩:=h;have k:∀ o,w'.cell? ⟨b,o,none⟩=w.cell? ⟨b,o,none⟩:=fun o=>hb.cell (p:=⟨b,o,none⟩) hl;exact ⟨(k _).trans c0,(k _).trans c1,(k _).trans c2,(k _).trans c3,(k _).trans c4,(k _).trans c5,(k _).trans c6,(k _).trans c7,(k _).trans c8,(k _).trans c9,(k _).trans c10,(k _).trans c11,(k _).trans c12,(k _).trans c13,(k _).trans c14,(k _).trans c15,(k _).trans c16,(k _).trans c17,(k _).trans c18⟩
theorem x2O.range {w:World} {b o:Nat} {d:Nd} {vc vk vd:Value} (h:x2O w b o d vc vk vd):w.rangeAt b o (z1J d vc vk vd):=by
 obtain ⟨c0,c1,c2,c3,c4,c5,c6,c7,c8,c9,c10,c11,c12,c13,c14,c15,c16,c17,c18⟩:=h;intro j v hv;match j,hv with
 | 0,hv=>simp at hv; subst hv; exact c0
 | 1,hv=>simp at hv; subst hv; exact c1
 | 2,hv=>simp at hv; subst hv; exact c2
 | 3,hv=>simp at hv; subst hv; exact c3
 | 4,hv=>simp at hv; subst hv; exact c4
 | 5,hv=>simp at hv; subst hv; exact c5
 | 6,hv=>simp at hv; subst hv; exact c6
 | 7,hv=>simp at hv; subst hv; exact c7
 | 8,hv=>simp at hv; subst hv; exact c8
 | 9,hv=>simp at hv; subst hv; exact c9
 | 10,hv=>simp at hv; subst hv; exact c10
 | 11,hv=>simp at hv; subst hv; exact c11
 | 12,hv=>simp at hv; subst hv; exact c12
 | 13,hv=>simp at hv; subst hv; exact c13
 | 14,hv=>simp at hv; subst hv; exact c14
 | 15,hv=>simp at hv; subst hv; exact c15
 | 16,hv=>simp at hv; subst hv; exact c16
 | 17,hv=>simp at hv; subst hv; exact c17
 | 18,hv=>simp at hv; subst hv; exact c18
 | n+19,hv=>simp at hv
def v2X {α:Type} (N:World->Nat->Nat->α->Prop) (w:World) (v:Value) (l:List α):Prop:=
 l.length<=9223372036854775807/\∃ (a:Option Addr) (cap:Nat),v = .slice a l.length cap/\(a=none->cap=0) ∧
  (l≠[]->∃ b off,a=some ⟨b,off,none⟩/\b<w.heap.size/\∀ j (hj:j<l.length),N w b (off+j*19) l[j])
def q1X {α:Type} (N:World->Nat->Nat->α->Prop) (w:World) (d:Nd) (l:List α) (vc vk vd:Value):Prop:=
 q1J w vc d.cs/\RawInts w vk d.ks/\v2X N w vd l
def NodeAt:(n:Nat)->World->Nat->Nat->Pl n->Prop
 | 0=>fun _ _ _ _=>False
 | n+1=>fun w b o p=>b<w.heap.size/\∃ vc vk vd,x2O w b o p.nd vc vk vd/\q1X (NodeAt n) w p.nd p.kids vc vk vd
theorem v2X.below {α:Type} {N:World->Nat->Nat->α->Prop} {w w':World} {v:Value} {l:List α} (h:v2X N w v l) (hb:Below w.heap.size w w') (hN:∀ b o x,N w b o x->N w' b o x):v2X N w' v l:=by
 obtain ⟨hl,a,cap,rfl,hn,hc⟩:=h;refine ⟨hl,a,cap,rfl,hn,fun hne=> ?_⟩;obtain ⟨b,off,rfl,hbl,hk⟩:=hc hne;exact ⟨b,off,rfl,Nat.lt_of_lt_of_le hbl hb.size,fun j hj=>hN _ _ _ (hk j hj)⟩
theorem q1X.below {α:Type} {N:World->Nat->Nat->α->Prop} {w w':World} {d:Nd} {l:List α} {vc vk vd:Value} (h:q1X N w d l vc vk vd) (hb:Below w.heap.size w w') (hN:∀ b o x,N w b o x->N w' b o x):q1X N w' d l vc vk vd:=
 ⟨h.1.below hb,h.2.1.below hb,h.2.2.below hb hN⟩
theorem NodeAt.below:∀ (n:Nat) {w w':World} {b o:Nat} {p:Pl n},NodeAt n w b o p->Below w.heap.size w w'->NodeAt n w' b o p
 | 0,_,_,_,_,_,h,_=>h.elim
 | n+1,w,w',b,o,p,h,hb=>by
  obtain ⟨hl,vc,vk,vd,hf,hp⟩:=h
  exact ⟨Nat.lt_of_lt_of_le hl hb.size,vc,vk,vd,hf.below hb hl,hp.below hb fun b o x hx=>NodeAt.below n hx hb⟩
theorem infoPlan19:(Tryz.prog.info? 31).map (fun i=>(i.zero,i.size,i.bytes))=some (some (.agg o19.toArray),19,200):=by kernel_rfl
theorem z1F {w w1:World} {b:Nat} {o:Obj} (h:w.heap[b]? = some o) (hb:Below w.heap.size w w1):w1.heap[b]? = some o:=(hb.block b (Array.getElem?_eq_some_iff.1 h).1).trans h
theorem alloc_at (w:World) (o:Obj):(w.alloc o).heap[w.heap.size]? = some o:=by show (w.heap.push o)[w.heap.size]? = some o; simp
theorem q1C (w:World) (o:Obj):(w.alloc o).heap.size=w.heap.size+1:=by show (w.heap.push o).size=_; simp
theorem cell_at {w:World} {b j:Nat} {vs:Array Value} {t:TypeId} {v:Value} (h:w.heap[b]? = some (.cells vs t)) (hj:vs[j]? = some v):w.cell? ⟨b,j,none⟩=some v:=by simp [World.cell?,h,hj]
theorem two (w:World) (o1 o2:Obj):((w.alloc o1).alloc o2).heap[w.heap.size]? = some o1/\((w.alloc o1).alloc o2).heap[w.heap.size+1]? = some o2/\Below w.heap.size w ((w.alloc o1).alloc o2):=by
 refine ⟨z1F (alloc_at w o1) (z1B _),?_,z1A (z1B _) (z1B _)⟩;have h:=alloc_at (w.alloc o1) o2;rwa [q1C] at h
theorem z5A (b off cap b2 off2 cap2:Nat) (xs ys:List Int) (w:World) (hpos:0<xs.length) (hlim:xs.length<=140737488355328)
  (hc:∀ j,j<xs.length->w.cell? ⟨b,off+j,none⟩=some (.int .i64 (xs.getD j 0)))
  (hlen:xs.length=ys.length)
  (hc2:∀ j,j<xs.length->w.cell? ⟨b2,off2+j,none⟩=some (.int .i64 (ys.getD j 0))) :
  Calls Tryz.prog 146 #[.slice (some ⟨b,off,none⟩) xs.length cap,.slice (some ⟨b2,off2,none⟩) xs.length cap2] w fun e w'=>
   e = .returned (.bool (v2Q xs ys))/\Below w.heap.size w w':=by
 obtain ⟨n,hn⟩:∃ n,n=xs.length:=⟨_,rfl⟩;have HN:Hid (n=xs.length):=hn;have HL:Hid (xs.length=ys.length):=hlen;clear hlen;rw [<-hn] at hpos hlim hc hc2 ⊢;clear hn;go_enter Tryz.func146,Tryz.ntmps146;go_wp2;go_loopw [13] (fun i wr=> ∃ k q:Nat,k<=n/\i = .int .i64 k/\wr=w.drewN q/\∀ j,j<k->xs.getD j 0=ys.getD j 0)
  (fun i _=>n - (intOf i).toNat)
 case atStart=>exact ⟨0,0,Nat.zero_le _,rfl,rfl,by omega⟩
 case round=>
  obtain ⟨k,q,hk,rfl,rfl,hsame⟩:=hrel;have HS:Hid (∀ j,j<k->xs.getD j 0=ys.getD j 0):=hsame;clear hsame;by_cases hlt:k<n
  ·
   have hx:=hc k hlt;have hy:=hc2 k hlt;clear hc hc2;obtain ⟨x,HX⟩:∃ x,Hid (x=xs.getD k 0):=⟨_,rfl⟩;obtain ⟨y,HY⟩:∃ y,Hid (y=ys.getD k 0):=⟨_,rfl⟩;rw [<-HX.out] at hx;rw [<-HY.out] at hy;by_cases hxy:x=y
   ·
    have hne:(x != y)=false:=by simp [hxy]
    have HXY:Hid (x=y):=hxy;clear hxy;go_wp2;go_quiet (fail)
    go_wp2;go_roundw
    case rel=>exact ⟨k+1,_,by omega,by go_num,rfl,fun j hj=>by
     rcases Nat.lt_succ_iff_lt_or_eq.1 hj with h | h
     ·
      exact HS.out j h
     ·
      rw [h,<-HX.out,<-HY.out]; exact HXY.out⟩
    case measure=>simp [intOf]; omega
   ·
    have hne:(x != y)=true:=by simp [hxy]
    go_wp2;go_quiet (fail)
    go_wp2;go_ret;exact ⟨z1N (sameB_at xs ys k (by rw [<-HX.out,<-HY.out]; exact hxy)).symm,below_drewN (below_drewN (Below.refl _ _) _) _⟩
  ·
   have e:k=n:=by omega
   subst e;go_wp2;go_ret;exact ⟨z1N (sameB_of xs ys HL.out (by rw [<-HN.out]; exact HS.out)).symm,below_drewN (Below.refl _ _) _⟩
theorem v5S (a:Option Addr) (cap n:Nat) (a2:Option Addr) (cap2 m:Nat) (w:World) (hne:((n:Int) != (m:Int))=true) :
  Calls Tryz.prog 146 #[.slice a n cap,.slice a2 m cap2] w fun e w'=>e = .returned (.bool false)/\Below w.heap.size w w':=by
 go_enter Tryz.func146,Tryz.ntmps146;go_wp2;go_ret;exact ⟨rfl,Below.refl _ _⟩
theorem z5B (a:Option Addr) (cap:Nat) (a2:Option Addr) (cap2:Nat) (w:World) :
  Calls Tryz.prog 146 #[.slice a 0 cap,.slice a2 0 cap2] w fun e w'=>e = .returned (.bool true)/\Below w.heap.size w w':=by
 go_enter Tryz.func146,Tryz.ntmps146;go_wp2;refine wp_loop_rounds 1 ?_;rw [rounds_succ];go_wp2;go_ret;exact ⟨rfl,Below.refl _ _⟩
theorem v2A (v v2:Value) (xs ys:List Int) (w:World) (h:z1E w v xs) (h2:z1E w v2 ys) :
  Calls Tryz.prog 146 #[v,v2] w fun e w'=>e = .returned (.bool (v2Q xs ys))/\Below w.heap.size w w':=by
 by_cases hl:xs.length=ys.length
 ·
  rcases h.cases with ⟨a,cap,rfl,rfl⟩ | ⟨b,off,cap,hpos,hlim,rfl,hbw,hc⟩
  ·
   obtain rfl:ys=[]:=List.length_eq_zero_iff.1 hl.symm;obtain ⟨_,a2,cap2,rfl,_⟩:=h2;exact z5B a cap a2 cap2 w
  ·
   rcases h2.cases with ⟨a2,cap2,rfl,rfl⟩ | ⟨b2,off2,cap2,_,_,rfl,_,hc2⟩
   ·
    simp at hl; simp [hl] at hpos
   ·
    rw [<-hl];exact z5A b off cap b2 off2 cap2 xs ys w hpos hlim hc hl (by rw [hl]; exact hc2)
 ·
  obtain ⟨_,a,cap,rfl,_⟩:=h;obtain ⟨_,a2,cap2,rfl,_⟩:=h2;rw [z6A xs ys hl];exact v5S a cap _ a2 cap2 _ w (by rw [bne_iff_ne]; omega)
def z3U (xs ys:List Cel):Bool:=all2 Cel.eqB xs ys
theorem v1L (xs ys:List Cel):z3U xs ys=true<->xs=ys:=q4M (fun _ _=>Cel.eqB_iff) xs ys
theorem celsB_of (xs ys:List Cel) (hl:xs.length=ys.length) (h:∀ j,j<xs.length->xs.getD j Cel.zero=ys.getD j Cel.zero):z3U xs ys=true:=by
 rw [v1L];apply List.ext_getElem hl;intro j h1 h2;have:=h j h1;simpa [List.getD,h1,h2] using this
theorem j6Y (xs ys:List Cel) (hl:xs.length≠ys.length):z3U xs ys=false:=by
 rw [Bool.eq_false_iff,Ne,v1L];intro h; exact hl (by rw [h])
theorem celsB_at (xs ys:List Cel) (j:Nat) (h:xs.getD j Cel.zero≠ys.getD j Cel.zero):z3U xs ys=false:=by
 rw [Bool.eq_false_iff,Ne,v1L];intro e; exact h (by rw [e])
theorem cellNe (c e:Cel) (w:World) :
  (binOp .neq 24 (.agg #[.int .i64 c.k,.int .i64 c.a,.int .i64 c.b,.int .i64 c.n]) (.agg #[.int .i64 e.k,.int .i64 e.a,.int .i64 e.b,.int .i64 e.n])).run Tryz.prog w = .ok (.bool (!c.eqB e)) w:=by
 rw [run_neq_struct,x6A 9998 c e w];simp
theorem z5C (b off cap b2 off2 cap2:Nat) (xs ys:List Cel) (w:World) (hpos:0<xs.length) (hlim:xs.length<=140737488355328)
  (hc:∀ j,j<xs.length->x3S w b (off+j*4) (xs.getD j Cel.zero))
  (hlen:xs.length=ys.length)
  (hc2:∀ j,j<xs.length->x3S w b2 (off2+j*4) (ys.getD j Cel.zero)) :
  Calls Tryz.prog 145 #[.slice (some ⟨b,off,none⟩) xs.length cap,.slice (some ⟨b2,off2,none⟩) xs.length cap2] w fun e w'=>
   e = .returned (.bool (z3U xs ys))/\Below w.heap.size w w':=by
 obtain ⟨n,hn⟩:∃ n,n=xs.length:=⟨_,rfl⟩;have HN:Hid (n=xs.length):=hn;have HL:Hid (xs.length=ys.length):=hlen;clear hlen;rw [<-hn] at hpos hlim hc hc2 ⊢;clear hn;have HC:Hid (∀ j,j<n->x3S w b (off+j*4) (xs.getD j Cel.zero)):=hc;have HC2:Hid (∀ j,j<n->x3S w b2 (off2+j*4) (ys.getD j Cel.zero)):=hc2;clear hc hc2;go_enter Tryz.func145,Tryz.ntmps145;go_wp2;go_loopw [13] (fun i wr=> ∃ k q:Nat,k<=n/\i = .int .i64 k/\wr=w.drewN q/\Hid (∀ j,j<k->xs.getD j Cel.zero=ys.getD j Cel.zero))
  (fun i _=>n - (intOf i).toNat)
 case atStart=>exact ⟨0,0,Nat.zero_le _,rfl,rfl,fun j hj=>by omega⟩
 case round=>
  obtain ⟨k,q,hk,rfl,rfl,HS⟩:=hrel;by_cases hlt:k<n
  ·
   obtain ⟨x0,x1,x2,x3⟩:=HC.out k hlt;obtain ⟨y0,y1,y2,y3⟩:=HC2.out k hlt;obtain ⟨x,HX⟩:∃ x,Hid (x=xs.getD k Cel.zero):=⟨_,rfl⟩;obtain ⟨y,HY⟩:∃ y,Hid (y=ys.getD k Cel.zero):=⟨_,rfl⟩;rw [<-HX.out] at x0 x1 x2 x3;rw [<-HY.out] at y0 y1 y2 y3;have hq:=cellNe x y;cases hxy:x.eqB y with
   | true=>
    have HXY:Hid (x=y):=Cel.eqB_iff.1 hxy;rw [hxy] at hq;clear hxy;go_wp2;go_quiet (fail)
    go_wp2;go_roundw
    case rel=>exact ⟨k+1,_,by omega,by go_num,rfl,fun j hj=>by
     rcases Nat.lt_succ_iff_lt_or_eq.1 hj with h | h
     ·
      exact HS.out j h
     ·
      rw [h,<-HX.out,<-HY.out]; exact HXY.out⟩
    case measure=>simp [intOf]; omega
   | false=>
    have HXY:Hid (x≠y):=fun h=>by rw [Cel.eqB_iff.2 h] at hxy; cases hxy
    rw [hxy] at hq;clear hxy;go_wp2;go_quiet (fail)
    go_wp2;go_ret;exact ⟨z1N (celsB_at xs ys k (by rw [<-HX.out,<-HY.out]; exact HXY.out)).symm,below_drewN (below_drewN (Below.refl _ _) _) _⟩
  ·
   have e:k=n:=by omega
   subst e;go_wp2;go_ret;exact ⟨z1N (celsB_of xs ys HL.out (by rw [<-HN.out]; exact HS.out)).symm,below_drewN (Below.refl _ _) _⟩
theorem v5T (a:Option Addr) (cap n:Nat) (a2:Option Addr) (cap2 m:Nat) (w:World) (hne:((n:Int) != (m:Int))=true) :
  Calls Tryz.prog 145 #[.slice a n cap,.slice a2 m cap2] w fun e w'=>e = .returned (.bool false)/\Below w.heap.size w w':=by
 go_enter Tryz.func145,Tryz.ntmps145;go_wp2;go_ret;exact ⟨rfl,Below.refl _ _⟩
theorem z5D (a:Option Addr) (cap:Nat) (a2:Option Addr) (cap2:Nat) (w:World) :
  Calls Tryz.prog 145 #[.slice a 0 cap,.slice a2 0 cap2] w fun e w'=>e = .returned (.bool true)/\Below w.heap.size w w':=by
 go_enter Tryz.func145,Tryz.ntmps145;go_wp2;refine wp_loop_rounds 1 ?_;rw [rounds_succ];go_wp2;go_ret;exact ⟨rfl,Below.refl _ _⟩
theorem k1K (v v2:Value) (xs ys:List Cel) (w:World) (h:q1J w v xs) (h2:q1J w v2 ys) (hlim:xs.length<=140737488355328) (hlim2:ys.length<=140737488355328) :
  Calls Tryz.prog 145 #[v,v2] w fun e w'=>e = .returned (.bool (z3U xs ys))/\Below w.heap.size w w':=by
 obtain ⟨_,a,cap,rfl,_,hc⟩:=h;obtain ⟨_,a2,cap2,rfl,_,hc2⟩:=h2;by_cases hl:xs.length=ys.length
 ·
  by_cases hne:xs=[]
  ·
   subst hne;obtain rfl:ys=[]:=List.length_eq_zero_iff.1 hl.symm;exact z5D a cap a2 cap2 w
  ·
   obtain ⟨b,off,rfl,hbw,hk⟩:=hc hne;obtain ⟨b2,off2,rfl,hbw2,hk2⟩:=hc2 (fun h=>hne (List.length_eq_zero_iff.1 (by rw [hl,h]; rfl)));rw [<-hl];exact z5C b off cap b2 off2 cap2 xs ys w (List.length_pos_iff.2 hne) hlim hk hl (by rw [hl]; exact hk2)
 ·
  rw [j6Y xs ys hl];exact v5T a cap _ a2 cap2 _ w (by rw [bne_iff_ne]; omega)
theorem besidesA (dk dn da db dg dc:Int) (dt:Tst) (dcs:List Cel) (dks:List Int) (ek en ea eb eg ec:Int) (et:Tst) (ecs:List Cel) (eks:List Int) (ca ka ca2 ka2:Option Addr) (nc cc nk kc nc2 cc2 nk2 kc2:Nat) (vd vd2:Value) (w:World)
  (hc:q1J w (.slice ca nc cc) dcs) (hc2:q1J w (.slice ca2 nc2 cc2) ecs) (hk:RawInts w (.slice ka nk kc) dks) (hk2:RawInts w (.slice ka2 nk2 kc2) eks)
  (hl1:dcs.length<=140737488355328) (hl2:ecs.length<=140737488355328) (hl3:dks.length<=140737488355328) (hl4:eks.length<=140737488355328) (b:Bool) (hb:(b=true/\dk=ek/\dn=en/\dt=et/\dcs=ecs/\da=ea/\db=eb/\dks=eks/\dg=eg/\dc=ec)\/(b=false/\¬ (dk=ek/\dn=en/\dt=et/\dcs=ecs/\da=ea/\db=eb/\dks=eks/\dg=eg/\dc=ec))) :
  Calls Tryz.prog 100 #[.agg (g19 dk dn dt (.slice ca nc cc) da db (.slice ka nk kc) dg dc vd).toArray,.agg (g19 ek en et (.slice ca2 nc2 cc2) ea eb (.slice ka2 nk2 kc2) eg ec vd2).toArray] w fun r w'=>r = .returned (.bool b)/\Below w.heap.size w w':=by
 have HC:Hid (q1J w (.slice ca nc cc) dcs):=hc;have HC2:Hid (q1J w (.slice ca2 nc2 cc2) ecs):=hc2;have HK:Hid (RawInts w (.slice ka nk kc) dks):=hk;have HK2:Hid (RawInts w (.slice ka2 nk2 kc2) eks):=hk2;have HL1:Hid (dcs.length<=140737488355328):=hl1;have HL2:Hid (ecs.length<=140737488355328):=hl2;have HL3:Hid (dks.length<=140737488355328):=hl3;have HL4:Hid (eks.length<=140737488355328):=hl4;clear hc hc2 hk hk2 hl1 hl2 hl3 hl4;have HA0:Hid (((w.alloc (.cells (g19 dk dn dt (.slice ca nc cc) da db (.slice ka nk kc) dg dc vd).toArray 31)).alloc (.cells (g19 ek en et (.slice ca2 nc2 cc2) ea eb (.slice ka2 nk2 kc2) eg ec vd2).toArray 31)).heap[w.heap.size]? = some (.cells (g19 dk dn dt (.slice ca nc cc) da db (.slice ka nk kc) dg dc vd).toArray 31)):=(two w _ _).1;have HQ0:Hid (((w.alloc (.cells (g19 dk dn dt (.slice ca nc cc) da db (.slice ka nk kc) dg dc vd).toArray 31)).alloc (.cells (g19 ek en et (.slice ca2 nc2 cc2) ea eb (.slice ka2 nk2 kc2) eg ec vd2).toArray 31)).heap[w.heap.size+1]? = some (.cells (g19 ek en et (.slice ca2 nc2 cc2) ea eb (.slice ka2 nk2 kc2) eg ec vd2).toArray 31)):=(two w _ _).2.1;have HB0:Hid (Below w.heap.size w ((w.alloc (.cells (g19 dk dn dt (.slice ca nc cc) da db (.slice ka nk kc) dg dc vd).toArray 31)).alloc (.cells (g19 ek en et (.slice ca2 nc2 cc2) ea eb (.slice ka2 nk2 kc2) eg ec vd2).toArray 31))):=(two w _ _).2.2;by_cases e0:dk=ek
 case neg=>
  obtain rfl:b=false:=by
   rcases hb with h | h
   ·
    exact absurd h.2.1 e0
   ·
    exact h.1
  clear hb;have g0:(dk==ek)=false:=by simp [e0]
  clear e0;go_enter Tryz.func100,Tryz.ntmps100;go_wp2_with fail;go_ret;exact ⟨rfl,HB0.out⟩
 by_cases e1:dn=en
 case neg=>
  obtain rfl:b=false:=by
   rcases hb with h | h
   ·
    exact absurd h.2.2.1 e1
   ·
    exact h.1
  clear hb;have g0:(dk==ek)=true:=by rw [e0]; simp
  clear e0;have g1:(dn==en)=false:=by simp [e1]
  clear e1;go_enter Tryz.func100,Tryz.ntmps100;go_wp2_with fail;go_ret;exact ⟨rfl,HB0.out⟩
 by_cases e2:dt=et
 case neg=>
  obtain rfl:b=false:=by
   rcases hb with h | h
   ·
    exact absurd h.2.2.2.1 e2
   ·
    exact h.1
  clear hb;have g0:(dk==ek)=true:=by rw [e0]; simp
  clear e0;have g1:(dn==en)=true:=by rw [e1]; simp
  clear e1;have g2:∀ w:World,(binOp .eql 26 (.agg (t10 dt).toArray) (.agg (t10 et).toArray)).run Tryz.prog w = .ok (.bool false) w:=fun w=>by rw [z2X]; rw [show dt.eqB et=false from by rw [Bool.eq_false_iff,Ne,Tst.eqB_iff]; exact e2]
  clear e2;go_enter Tryz.func100,Tryz.ntmps100;go_wp2_with fail;go_ret;exact ⟨rfl,HB0.out⟩
 by_cases e3:dcs=ecs
 case neg=>
  obtain rfl:b=false:=by
   rcases hb with h | h
   ·
    exact absurd h.2.2.2.2.1 e3
   ·
    exact h.1
  clear hb;have g0:(dk==ek)=true:=by rw [e0]; simp
  clear e0;have g1:(dn==en)=true:=by rw [e1]; simp
  clear e1;have g2:∀ w:World,(binOp .eql 26 (.agg (t10 dt).toArray) (.agg (t10 et).toArray)).run Tryz.prog w = .ok (.bool true) w:=fun w=>by rw [z2X]; rw [Tst.eqB_iff.2 e2]
  clear e2;have HE3:Hid (z3U dcs ecs=false):=(by show _=_; rw [Bool.eq_false_iff,Ne,v1L]; exact e3);clear e3;go_enter Tryz.func100,Tryz.ntmps100;go_wp2_with fail;refine (k1K _ _ dcs ecs _ (HC.out.below HB0.out) (HC2.out.below HB0.out) HL1.out HL2.out).mono ?_;rw [HE3.out];rintro r w1 ⟨rfl,hb⟩;have HA1:Hid (w1.heap[w.heap.size]? = some (.cells (g19 dk dn dt (.slice ca nc cc) da db (.slice ka nk kc) dg dc vd).toArray 31)):=z1F HA0.out hb;have HQ1:Hid (w1.heap[w.heap.size+1]? = some (.cells (g19 ek en et (.slice ca2 nc2 cc2) ea eb (.slice ka2 nk2 kc2) eg ec vd2).toArray 31)):=z1F HQ0.out hb;have HB1:Hid (Below w.heap.size w w1):=z1A HB0.out hb;clear hb;go_wp2_with fail;go_ret;exact ⟨rfl,HB1.out⟩
 by_cases e4:da=ea
 case neg=>
  obtain rfl:b=false:=by
   rcases hb with h | h
   ·
    exact absurd h.2.2.2.2.2.1 e4
   ·
    exact h.1
  clear hb;have g0:(dk==ek)=true:=by rw [e0]; simp
  clear e0;have g1:(dn==en)=true:=by rw [e1]; simp
  clear e1;have g2:∀ w:World,(binOp .eql 26 (.agg (t10 dt).toArray) (.agg (t10 et).toArray)).run Tryz.prog w = .ok (.bool true) w:=fun w=>by rw [z2X]; rw [Tst.eqB_iff.2 e2]
  clear e2;have HE3:Hid (z3U dcs ecs=true):=(v1L _ _).2 e3;clear e3;have g4:(da==ea)=false:=by simp [e4]
  clear e4;go_enter Tryz.func100,Tryz.ntmps100;go_wp2_with fail;refine (k1K _ _ dcs ecs _ (HC.out.below HB0.out) (HC2.out.below HB0.out) HL1.out HL2.out).mono ?_;rw [HE3.out];rintro r w1 ⟨rfl,hb⟩;have HA1:Hid (w1.heap[w.heap.size]? = some (.cells (g19 dk dn dt (.slice ca nc cc) da db (.slice ka nk kc) dg dc vd).toArray 31)):=z1F HA0.out hb;have HQ1:Hid (w1.heap[w.heap.size+1]? = some (.cells (g19 ek en et (.slice ca2 nc2 cc2) ea eb (.slice ka2 nk2 kc2) eg ec vd2).toArray 31)):=z1F HQ0.out hb;have HB1:Hid (Below w.heap.size w w1):=z1A HB0.out hb;clear hb;have a13:w1.cell? ⟨w.heap.size,13,none⟩=some (.int .i64 da):=cell_at HA1.out rfl;have b13:w1.cell? ⟨w.heap.size+1,13,none⟩=some (.int .i64 ea):=cell_at HQ1.out rfl;have a14:w1.cell? ⟨w.heap.size,14,none⟩=some (.int .i64 db):=cell_at HA1.out rfl;have b14:w1.cell? ⟨w.heap.size+1,14,none⟩=some (.int .i64 eb):=cell_at HQ1.out rfl;have a15:w1.cell? ⟨w.heap.size,15,none⟩=some (.slice ka nk kc):=cell_at HA1.out rfl;have b15:w1.cell? ⟨w.heap.size+1,15,none⟩=some (.slice ka2 nk2 kc2):=cell_at HQ1.out rfl;go_wp2_with fail;go_ret;exact ⟨rfl,HB1.out⟩
 by_cases e5:db=eb
 case neg=>
  obtain rfl:b=false:=by
   rcases hb with h | h
   ·
    exact absurd h.2.2.2.2.2.2.1 e5
   ·
    exact h.1
  clear hb;have g0:(dk==ek)=true:=by rw [e0]; simp
  clear e0;have g1:(dn==en)=true:=by rw [e1]; simp
  clear e1;have g2:∀ w:World,(binOp .eql 26 (.agg (t10 dt).toArray) (.agg (t10 et).toArray)).run Tryz.prog w = .ok (.bool true) w:=fun w=>by rw [z2X]; rw [Tst.eqB_iff.2 e2]
  clear e2;have HE3:Hid (z3U dcs ecs=true):=(v1L _ _).2 e3;clear e3;have g4:(da==ea)=true:=by rw [e4]; simp
  clear e4;have g5:(db==eb)=false:=by simp [e5]
  clear e5;go_enter Tryz.func100,Tryz.ntmps100;go_wp2_with fail;refine (k1K _ _ dcs ecs _ (HC.out.below HB0.out) (HC2.out.below HB0.out) HL1.out HL2.out).mono ?_;rw [HE3.out];rintro r w1 ⟨rfl,hb⟩;have HA1:Hid (w1.heap[w.heap.size]? = some (.cells (g19 dk dn dt (.slice ca nc cc) da db (.slice ka nk kc) dg dc vd).toArray 31)):=z1F HA0.out hb;have HQ1:Hid (w1.heap[w.heap.size+1]? = some (.cells (g19 ek en et (.slice ca2 nc2 cc2) ea eb (.slice ka2 nk2 kc2) eg ec vd2).toArray 31)):=z1F HQ0.out hb;have HB1:Hid (Below w.heap.size w w1):=z1A HB0.out hb;clear hb;have a13:w1.cell? ⟨w.heap.size,13,none⟩=some (.int .i64 da):=cell_at HA1.out rfl;have b13:w1.cell? ⟨w.heap.size+1,13,none⟩=some (.int .i64 ea):=cell_at HQ1.out rfl;have a14:w1.cell? ⟨w.heap.size,14,none⟩=some (.int .i64 db):=cell_at HA1.out rfl;have b14:w1.cell? ⟨w.heap.size+1,14,none⟩=some (.int .i64 eb):=cell_at HQ1.out rfl;have a15:w1.cell? ⟨w.heap.size,15,none⟩=some (.slice ka nk kc):=cell_at HA1.out rfl;have b15:w1.cell? ⟨w.heap.size+1,15,none⟩=some (.slice ka2 nk2 kc2):=cell_at HQ1.out rfl;go_wp2_with fail;go_ret;exact ⟨rfl,HB1.out⟩
 by_cases e6:dks=eks
 case neg=>
  obtain rfl:b=false:=by
   rcases hb with h | h
   ·
    exact absurd h.2.2.2.2.2.2.2.1 e6
   ·
    exact h.1
  clear hb;have g0:(dk==ek)=true:=by rw [e0]; simp
  clear e0;have g1:(dn==en)=true:=by rw [e1]; simp
  clear e1;have g2:∀ w:World,(binOp .eql 26 (.agg (t10 dt).toArray) (.agg (t10 et).toArray)).run Tryz.prog w = .ok (.bool true) w:=fun w=>by rw [z2X]; rw [Tst.eqB_iff.2 e2]
  clear e2;have HE3:Hid (z3U dcs ecs=true):=(v1L _ _).2 e3;clear e3;have g4:(da==ea)=true:=by rw [e4]; simp
  clear e4;have g5:(db==eb)=true:=by rw [e5]; simp
  clear e5;have HE6:Hid (v2Q dks eks=false):=by show _=_; simp [v2Q,e6]
  clear e6;go_enter Tryz.func100,Tryz.ntmps100;go_wp2_with fail;refine (k1K _ _ dcs ecs _ (HC.out.below HB0.out) (HC2.out.below HB0.out) HL1.out HL2.out).mono ?_;rw [HE3.out];rintro r w1 ⟨rfl,hb⟩;have HA1:Hid (w1.heap[w.heap.size]? = some (.cells (g19 dk dn dt (.slice ca nc cc) da db (.slice ka nk kc) dg dc vd).toArray 31)):=z1F HA0.out hb;have HQ1:Hid (w1.heap[w.heap.size+1]? = some (.cells (g19 ek en et (.slice ca2 nc2 cc2) ea eb (.slice ka2 nk2 kc2) eg ec vd2).toArray 31)):=z1F HQ0.out hb;have HB1:Hid (Below w.heap.size w w1):=z1A HB0.out hb;clear hb;have a13:w1.cell? ⟨w.heap.size,13,none⟩=some (.int .i64 da):=cell_at HA1.out rfl;have b13:w1.cell? ⟨w.heap.size+1,13,none⟩=some (.int .i64 ea):=cell_at HQ1.out rfl;have a14:w1.cell? ⟨w.heap.size,14,none⟩=some (.int .i64 db):=cell_at HA1.out rfl;have b14:w1.cell? ⟨w.heap.size+1,14,none⟩=some (.int .i64 eb):=cell_at HQ1.out rfl;have a15:w1.cell? ⟨w.heap.size,15,none⟩=some (.slice ka nk kc):=cell_at HA1.out rfl;have b15:w1.cell? ⟨w.heap.size+1,15,none⟩=some (.slice ka2 nk2 kc2):=cell_at HQ1.out rfl;go_wp2_with fail;refine (v2A _ _ dks eks _ ((HK.out.below HB1.out).ints HL3.out) ((HK2.out.below HB1.out).ints HL4.out)).mono ?_;rw [HE6.out];rintro r w2 ⟨rfl,hb⟩;have HA2:Hid (w2.heap[w.heap.size]? = some (.cells (g19 dk dn dt (.slice ca nc cc) da db (.slice ka nk kc) dg dc vd).toArray 31)):=z1F HA1.out hb;have HQ2:Hid (w2.heap[w.heap.size+1]? = some (.cells (g19 ek en et (.slice ca2 nc2 cc2) ea eb (.slice ka2 nk2 kc2) eg ec vd2).toArray 31)):=z1F HQ1.out hb;have HB2:Hid (Below w.heap.size w w2):=z1A HB1.out hb;clear hb;clear a13 b13 a14 b14 a15 b15;go_wp2_with fail;go_ret;exact ⟨rfl,HB2.out⟩
 by_cases e7:dg=eg
 case neg=>
  obtain rfl:b=false:=by
   rcases hb with h | h
   ·
    exact absurd h.2.2.2.2.2.2.2.2.1 e7
   ·
    exact h.1
  clear hb;have g0:(dk==ek)=true:=by rw [e0]; simp
  clear e0;have g1:(dn==en)=true:=by rw [e1]; simp
  clear e1;have g2:∀ w:World,(binOp .eql 26 (.agg (t10 dt).toArray) (.agg (t10 et).toArray)).run Tryz.prog w = .ok (.bool true) w:=fun w=>by rw [z2X]; rw [Tst.eqB_iff.2 e2]
  clear e2;have HE3:Hid (z3U dcs ecs=true):=(v1L _ _).2 e3;clear e3;have g4:(da==ea)=true:=by rw [e4]; simp
  clear e4;have g5:(db==eb)=true:=by rw [e5]; simp
  clear e5;have HE6:Hid (v2Q dks eks=true):=by show _=_; rw [e6]; exact z3G _
  clear e6;have g7:(dg==eg)=false:=by simp [e7]
  clear e7;go_enter Tryz.func100,Tryz.ntmps100;go_wp2_with fail;refine (k1K _ _ dcs ecs _ (HC.out.below HB0.out) (HC2.out.below HB0.out) HL1.out HL2.out).mono ?_;rw [HE3.out];rintro r w1 ⟨rfl,hb⟩;have HA1:Hid (w1.heap[w.heap.size]? = some (.cells (g19 dk dn dt (.slice ca nc cc) da db (.slice ka nk kc) dg dc vd).toArray 31)):=z1F HA0.out hb;have HQ1:Hid (w1.heap[w.heap.size+1]? = some (.cells (g19 ek en et (.slice ca2 nc2 cc2) ea eb (.slice ka2 nk2 kc2) eg ec vd2).toArray 31)):=z1F HQ0.out hb;have HB1:Hid (Below w.heap.size w w1):=z1A HB0.out hb;clear hb;have a13:w1.cell? ⟨w.heap.size,13,none⟩=some (.int .i64 da):=cell_at HA1.out rfl;have b13:w1.cell? ⟨w.heap.size+1,13,none⟩=some (.int .i64 ea):=cell_at HQ1.out rfl;have a14:w1.cell? ⟨w.heap.size,14,none⟩=some (.int .i64 db):=cell_at HA1.out rfl;have b14:w1.cell? ⟨w.heap.size+1,14,none⟩=some (.int .i64 eb):=cell_at HQ1.out rfl;have a15:w1.cell? ⟨w.heap.size,15,none⟩=some (.slice ka nk kc):=cell_at HA1.out rfl;have b15:w1.cell? ⟨w.heap.size+1,15,none⟩=some (.slice ka2 nk2 kc2):=cell_at HQ1.out rfl;go_wp2_with fail;refine (v2A _ _ dks eks _ ((HK.out.below HB1.out).ints HL3.out) ((HK2.out.below HB1.out).ints HL4.out)).mono ?_;rw [HE6.out];rintro r w2 ⟨rfl,hb⟩;have HA2:Hid (w2.heap[w.heap.size]? = some (.cells (g19 dk dn dt (.slice ca nc cc) da db (.slice ka nk kc) dg dc vd).toArray 31)):=z1F HA1.out hb;have HQ2:Hid (w2.heap[w.heap.size+1]? = some (.cells (g19 ek en et (.slice ca2 nc2 cc2) ea eb (.slice ka2 nk2 kc2) eg ec vd2).toArray 31)):=z1F HQ1.out hb;have HB2:Hid (Below w.heap.size w w2):=z1A HB1.out hb;clear hb;clear a13 b13 a14 b14 a15 b15;have a16:w2.cell? ⟨w.heap.size,16,none⟩=some (.int .i64 dg):=cell_at HA2.out rfl;have b16:w2.cell? ⟨w.heap.size+1,16,none⟩=some (.int .i64 eg):=cell_at HQ2.out rfl;have a17:w2.cell? ⟨w.heap.size,17,none⟩=some (.int .i64 dc):=cell_at HA2.out rfl;have b17:w2.cell? ⟨w.heap.size+1,17,none⟩=some (.int .i64 ec):=cell_at HQ2.out rfl;go_wp2_with fail;go_ret;exact ⟨rfl,HB2.out⟩
 by_cases e8:dc=ec
 case neg=>
  obtain rfl:b=false:=by
   rcases hb with h | h
   ·
    exact absurd h.2.2.2.2.2.2.2.2.2 e8
   ·
    exact h.1
  clear hb;have g0:(dk==ek)=true:=by rw [e0]; simp
  clear e0;have g1:(dn==en)=true:=by rw [e1]; simp
  clear e1;have g2:∀ w:World,(binOp .eql 26 (.agg (t10 dt).toArray) (.agg (t10 et).toArray)).run Tryz.prog w = .ok (.bool true) w:=fun w=>by rw [z2X]; rw [Tst.eqB_iff.2 e2]
  clear e2;have HE3:Hid (z3U dcs ecs=true):=(v1L _ _).2 e3;clear e3;have g4:(da==ea)=true:=by rw [e4]; simp
  clear e4;have g5:(db==eb)=true:=by rw [e5]; simp
  clear e5;have HE6:Hid (v2Q dks eks=true):=by show _=_; rw [e6]; exact z3G _
  clear e6;have g7:(dg==eg)=true:=by rw [e7]; simp
  clear e7;have g8:(dc==ec)=false:=by simp [e8]
  clear e8;go_enter Tryz.func100,Tryz.ntmps100;go_wp2_with fail;refine (k1K _ _ dcs ecs _ (HC.out.below HB0.out) (HC2.out.below HB0.out) HL1.out HL2.out).mono ?_;rw [HE3.out];rintro r w1 ⟨rfl,hb⟩;have HA1:Hid (w1.heap[w.heap.size]? = some (.cells (g19 dk dn dt (.slice ca nc cc) da db (.slice ka nk kc) dg dc vd).toArray 31)):=z1F HA0.out hb;have HQ1:Hid (w1.heap[w.heap.size+1]? = some (.cells (g19 ek en et (.slice ca2 nc2 cc2) ea eb (.slice ka2 nk2 kc2) eg ec vd2).toArray 31)):=z1F HQ0.out hb;have HB1:Hid (Below w.heap.size w w1):=z1A HB0.out hb;clear hb;have a13:w1.cell? ⟨w.heap.size,13,none⟩=some (.int .i64 da):=cell_at HA1.out rfl;have b13:w1.cell? ⟨w.heap.size+1,13,none⟩=some (.int .i64 ea):=cell_at HQ1.out rfl;have a14:w1.cell? ⟨w.heap.size,14,none⟩=some (.int .i64 db):=cell_at HA1.out rfl;have b14:w1.cell? ⟨w.heap.size+1,14,none⟩=some (.int .i64 eb):=cell_at HQ1.out rfl;have a15:w1.cell? ⟨w.heap.size,15,none⟩=some (.slice ka nk kc):=cell_at HA1.out rfl;have b15:w1.cell? ⟨w.heap.size+1,15,none⟩=some (.slice ka2 nk2 kc2):=cell_at HQ1.out rfl;go_wp2_with fail;refine (v2A _ _ dks eks _ ((HK.out.below HB1.out).ints HL3.out) ((HK2.out.below HB1.out).ints HL4.out)).mono ?_;rw [HE6.out];rintro r w2 ⟨rfl,hb⟩;have HA2:Hid (w2.heap[w.heap.size]? = some (.cells (g19 dk dn dt (.slice ca nc cc) da db (.slice ka nk kc) dg dc vd).toArray 31)):=z1F HA1.out hb;have HQ2:Hid (w2.heap[w.heap.size+1]? = some (.cells (g19 ek en et (.slice ca2 nc2 cc2) ea eb (.slice ka2 nk2 kc2) eg ec vd2).toArray 31)):=z1F HQ1.out hb;have HB2:Hid (Below w.heap.size w w2):=z1A HB1.out hb;clear hb;clear a13 b13 a14 b14 a15 b15;have a16:w2.cell? ⟨w.heap.size,16,none⟩=some (.int .i64 dg):=cell_at HA2.out rfl;have b16:w2.cell? ⟨w.heap.size+1,16,none⟩=some (.int .i64 eg):=cell_at HQ2.out rfl;have a17:w2.cell? ⟨w.heap.size,17,none⟩=some (.int .i64 dc):=cell_at HA2.out rfl;have b17:w2.cell? ⟨w.heap.size+1,17,none⟩=some (.int .i64 ec):=cell_at HQ2.out rfl;go_wp2_with fail;go_ret;exact ⟨rfl,HB2.out⟩
 obtain rfl:b=true:=by
  rcases hb with h | h
  ·
   exact h.1
  ·
   exact absurd ⟨e0,e1,e2,e3,e4,e5,e6,e7,e8⟩ h.2
 clear hb;have g0:(dk==ek)=true:=by rw [e0]; simp
 clear e0;have g1:(dn==en)=true:=by rw [e1]; simp
 clear e1;have g2:∀ w:World,(binOp .eql 26 (.agg (t10 dt).toArray) (.agg (t10 et).toArray)).run Tryz.prog w = .ok (.bool true) w:=fun w=>by rw [z2X]; rw [Tst.eqB_iff.2 e2]
 clear e2;have HE3:Hid (z3U dcs ecs=true):=(v1L _ _).2 e3;clear e3;have g4:(da==ea)=true:=by rw [e4]; simp
 clear e4;have g5:(db==eb)=true:=by rw [e5]; simp
 clear e5;have HE6:Hid (v2Q dks eks=true):=by show _=_; rw [e6]; exact z3G _
 clear e6;have g7:(dg==eg)=true:=by rw [e7]; simp
 clear e7;have g8:(dc==ec)=true:=by rw [e8]; simp
 clear e8;go_enter Tryz.func100,Tryz.ntmps100;go_wp2_with fail;refine (k1K _ _ dcs ecs _ (HC.out.below HB0.out) (HC2.out.below HB0.out) HL1.out HL2.out).mono ?_;rw [HE3.out];rintro r w1 ⟨rfl,hb⟩;have HA1:Hid (w1.heap[w.heap.size]? = some (.cells (g19 dk dn dt (.slice ca nc cc) da db (.slice ka nk kc) dg dc vd).toArray 31)):=z1F HA0.out hb;have HQ1:Hid (w1.heap[w.heap.size+1]? = some (.cells (g19 ek en et (.slice ca2 nc2 cc2) ea eb (.slice ka2 nk2 kc2) eg ec vd2).toArray 31)):=z1F HQ0.out hb;have HB1:Hid (Below w.heap.size w w1):=z1A HB0.out hb;clear hb;have a13:w1.cell? ⟨w.heap.size,13,none⟩=some (.int .i64 da):=cell_at HA1.out rfl;have b13:w1.cell? ⟨w.heap.size+1,13,none⟩=some (.int .i64 ea):=cell_at HQ1.out rfl;have a14:w1.cell? ⟨w.heap.size,14,none⟩=some (.int .i64 db):=cell_at HA1.out rfl;have b14:w1.cell? ⟨w.heap.size+1,14,none⟩=some (.int .i64 eb):=cell_at HQ1.out rfl;have a15:w1.cell? ⟨w.heap.size,15,none⟩=some (.slice ka nk kc):=cell_at HA1.out rfl;have b15:w1.cell? ⟨w.heap.size+1,15,none⟩=some (.slice ka2 nk2 kc2):=cell_at HQ1.out rfl;go_wp2_with fail;refine (v2A _ _ dks eks _ ((HK.out.below HB1.out).ints HL3.out) ((HK2.out.below HB1.out).ints HL4.out)).mono ?_;rw [HE6.out];rintro r w2 ⟨rfl,hb⟩;have HA2:Hid (w2.heap[w.heap.size]? = some (.cells (g19 dk dn dt (.slice ca nc cc) da db (.slice ka nk kc) dg dc vd).toArray 31)):=z1F HA1.out hb;have HQ2:Hid (w2.heap[w.heap.size+1]? = some (.cells (g19 ek en et (.slice ca2 nc2 cc2) ea eb (.slice ka2 nk2 kc2) eg ec vd2).toArray 31)):=z1F HQ1.out hb;have HB2:Hid (Below w.heap.size w w2):=z1A HB1.out hb;clear hb;clear a13 b13 a14 b14 a15 b15;have a16:w2.cell? ⟨w.heap.size,16,none⟩=some (.int .i64 dg):=cell_at HA2.out rfl;have b16:w2.cell? ⟨w.heap.size+1,16,none⟩=some (.int .i64 eg):=cell_at HQ2.out rfl;have a17:w2.cell? ⟨w.heap.size,17,none⟩=some (.int .i64 dc):=cell_at HA2.out rfl;have b17:w2.cell? ⟨w.heap.size+1,17,none⟩=some (.int .i64 ec):=cell_at HQ2.out rfl;go_wp2_with fail;go_ret;exact ⟨rfl,HB2.out⟩
theorem nd_ext {x y:Nd} (h0:x.k=y.k) (h1:x.n=y.n) (h2:x.t=y.t) (h3:x.a=y.a) (h4:x.b=y.b) (h5:x.g=y.g) (h6:x.c=y.c) (h7:x.ks=y.ks) (h8:x.cs=y.cs):x=y:=by
 obtain ⟨k,n,t,cs,a,b,ks,g,c⟩:=x;obtain ⟨k',n',t',cs',a',b',ks',g',c'⟩:=y;simp only at h0 h1 h2 h3 h4 h5 h6 h7 h8;subst h0 h1 h2 h3 h4 h5 h6 h7 h8;rfl
theorem v1Q (d e:Nd) (vc vk vd vc2 vk2 vd2:Value) (w:World) (hc:q1J w vc d.cs) (hc2:q1J w vc2 e.cs) (hk:RawInts w vk d.ks) (hk2:RawInts w vk2 e.ks)
  (hl1:d.cs.length<=140737488355328) (hl2:e.cs.length<=140737488355328) (hl3:d.ks.length<=140737488355328) (hl4:e.ks.length<=140737488355328) :
  Calls Tryz.prog 100 #[.agg (z1J d vc vk vd).toArray,.agg (z1J e vc2 vk2 vd2).toArray] w fun r w'=>r = .returned (.bool (d.eqB e))/\Below w.heap.size w w':=by
 obtain ⟨-,ca,cc,rfl,-⟩:=id hc;obtain ⟨-,ka,kc,rfl,-⟩:=id hk;obtain ⟨-,ca2,cc2,rfl,-⟩:=id hc2;obtain ⟨-,ka2,kc2,rfl,-⟩:=id hk2;refine besidesA d.k d.n d.a d.b d.g d.c d.t d.cs d.ks e.k e.n e.a e.b e.g e.c e.t e.cs e.ks ca ka ca2 ka2 _ cc _ kc _ cc2 _ kc2 vd vd2 w hc hc2 hk hk2 hl1 hl2 hl3 hl4 _ ?_;by_cases h:d=e
 ·
  exact .inl ⟨Nd.eqB_iff.2 h,by rw [h],by rw [h],by rw [h],by rw [h],by rw [h],by rw [h],by rw [h],by rw [h],by rw [h]⟩
 ·
  exact .inr ⟨by rw [Bool.eq_false_iff,Ne,Nd.eqB_iff]; exact h,fun x=>h (nd_ext x.1 x.2.1 x.2.2.1 x.2.2.2.2.1 x.2.2.2.2.2.1 x.2.2.2.2.2.2.2.1 x.2.2.2.2.2.2.2.2 x.2.2.2.2.2.2.1 x.2.2.2.1)⟩
def NoPlan (w:World) (a:Addr):Prop:=1<w.heap.size/\w.cell? ⟨1,0,none⟩=some (.iface 248 (.pointer (some a)))
theorem NoPlan.below {w w':World} {a:Addr} (h:NoPlan w a) (hb:Below w.heap.size w w'):NoPlan w' a:=
 ⟨Nat.lt_of_lt_of_le h.1 hb.size,(hb.cell (p:=⟨1,0,none⟩) h.1).trans h.2⟩
def x2M (a:Addr):Ending:=.panicked [{ v:=.iface 248 (.pointer (some a)),recovered:=false }]
theorem j3L (w:World):Calls Tryz.prog 90 #[.bool true] w fun e w'=>e = .returned (.tuple #[])/\w'=w:=by
 go_enter Tryz.func90,Tryz.ntmps90;go_wp2;simp [bodyPost,results,Tryz.results90]
theorem j4R (w:World) (a:Addr) (h:NoPlan w a):Calls Tryz.prog 90 #[.bool false] w fun e w'=>e=x2M a/\w'=w:=by
 have hg:=h.2;go_enter Tryz.func90,Tryz.ntmps90;go_wp2;exact ⟨rfl,rfl,rfl⟩
theorem k3O (p q:Addr) (x y:Int) (u:TypeId) (pv:Value) (older:List PanicEntry) (w:World) (hp:w.cell? p=some (.int .i64 x)) (hq:w.cell? q=some (.int .i64 y)) (hz:w.frozen? q=false) :
  CallsD Tryz.prog 88 #[.pointer (some p),.pointer (some q)] (.panicking ({ v:=.iface u pv,recovered:=false } :: older)) w fun e u' w'=>
   e = .returned (.tuple #[])/\u' = .panicking ({ v:=.iface u pv,recovered:=true } :: older)/\w'=w.setCell q (.int .i64 x):=by
 refine callsD_of_wpS Tryz.func88 rfl fun c₀ cs hu=> ?_;apply wpS_seq;apply wpS_region;simp [wpOpsS,go_sem,recoverD,hu,Tryz.ntmps88,Exit.thenS];refine wpS_cond (t:=true) (by simp [Act.eval,Array.replicate]) ?_;simp only [if_true];apply wpS_region;simp [wpOpsS,go_sem,hp,hq,hz,bodyPostS,results,Tryz.results88]
theorem k3N (p q:Addr) (w:World) :
  CallsD Tryz.prog 88 #[.pointer (some p),.pointer (some q)] .returning w fun e u' w'=>e = .returned (.tuple #[])/\u' = .returning/\w'=w:=by
 refine callsD_of_wpS Tryz.func88 rfl fun c₀ cs hu=> ?_;apply wpS_seq;apply wpS_region;simp [wpOpsS,go_sem,recoverD,hu,Tryz.ntmps88,Exit.thenS];refine wpS_cond (t:=false) (by simp [Act.eval,Array.replicate]) ?_;simp only [Bool.false_eq_true,if_false];refine wpS_of_wp (wp_skip ?_);cases c₀;simp_all [bodyPostS,results,Tryz.results88]
theorem k3U {w w1:World} {x:Int} (hb:Below ((w.alloc (.cells #[.int .i64 x] 3)).alloc (.cells #[.int .i64 0] 3)).heap.size ((w.alloc (.cells #[.int .i64 x] 3)).alloc (.cells #[.int .i64 0] 3)) w1) :
  w1.cell? ⟨w.heap.size,0,none⟩=some (.int .i64 x)/\w1.cell? ⟨w.heap.size+1,0,none⟩=some (.int .i64 0)/\w1.frozen? ⟨w.heap.size+1,0,none⟩=false/\Below w.heap.size w w1:=by
 obtain ⟨h1,h2,h3⟩:=two w (.cells #[.int .i64 x] 3) (.cells #[.int .i64 0] 3);have k1:=z1F h1 hb;have k2:=z1F h2 hb;exact ⟨cell_at k1 rfl,cell_at k2 rfl,by simp [World.frozen?,k2],z1A h3 hb⟩
theorem v4G (x y:Int) (p:Addr) (w:World) (h:∀ w2,w2=(w.alloc (.cells #[.int .i64 x] 3)).alloc (.cells #[.int .i64 0] 3)->Calls Tryz.prog 57 #[.pointer (some p)] w2 fun e w'=>e = .returned (.int .i64 y)/\Below w2.heap.size w2 w') :
  Calls Tryz.prog 43 #[.int .i64 x,.func (.func 57) #[] #[.pointer (some p)]] w fun e w'=>e = .returned (.int .i64 y)/\Below w.heap.size w w':=by
 have hmf:∀ (fn:Fn) (first cap:Array Value) (w:World),(Instr.makeFunc fn first cap).run Tryz.prog w = .ok (.func fn first cap) w:=fun _ _ _ _=>rfl;go_enter_defers Tryz.func43,Tryz.ntmps43;go_wp2_with fail;refine (h _ rfl).mono ?_;rintro e w1 ⟨rfl,hb⟩;obtain ⟨hx,hc,hz,hw⟩:=k3U hb;have HW:Hid (Below w.heap.size w w1):=hw;clear hb hw;go_wp2_with fail;refine leaves_cons (f:=88) (args:=#[.pointer (some ⟨w.heap.size,0,none⟩),.pointer (some ⟨w.heap.size+1,0,none⟩)]) (by simp) (by simp [go_sem]) ?_;refine (k3N _ _ _).mono ?_;rintro e u' w'' ⟨rfl,rfl,rfl⟩;have hs:(w1.setCell ⟨w.heap.size+1,0,none⟩ (.int .i64 y)).cell? ⟨w.heap.size+1,0,none⟩=some (.int .i64 y):=by simp [go_sem,hc]
 simp [Leaves,settle,results,Tryz.results43,go_sem,hs,hc];exact HW.out.setCell (Nat.le_succ _) _
theorem v4H (x:Int) (p a:Addr) (w:World) (h:∀ w2,w2=(w.alloc (.cells #[.int .i64 x] 3)).alloc (.cells #[.int .i64 0] 3)->Calls Tryz.prog 57 #[.pointer (some p)] w2 fun e w'=>e=x2M a/\Below w2.heap.size w2 w') :
  Calls Tryz.prog 43 #[.int .i64 x,.func (.func 57) #[] #[.pointer (some p)]] w fun e w'=>e = .returned (.int .i64 x)/\Below w.heap.size w w':=by
 have hmf:∀ (fn:Fn) (first cap:Array Value) (w:World),(Instr.makeFunc fn first cap).run Tryz.prog w = .ok (.func fn first cap) w:=fun _ _ _ _=>rfl;go_enter_defers Tryz.func43,Tryz.ntmps43;go_wp2_with fail;refine (h _ rfl).mono ?_;rintro e w1 ⟨rfl,hb⟩;obtain ⟨hx,hc,hz,hw⟩:=k3U hb;have HW:Hid (Below w.heap.size w w1):=hw;clear hb hw;unfold x2M;refine leaves_cons (f:=88) (args:=#[.pointer (some ⟨w.heap.size,0,none⟩),.pointer (some ⟨w.heap.size+1,0,none⟩)]) (by simp) (by simp [go_sem]) ?_;refine (k3O _ _ x 0 _ _ [] _ hx hc hz).mono ?_;rintro e u' w'' ⟨rfl,rfl,rfl⟩;have hs:(w1.setCell ⟨w.heap.size+1,0,none⟩ (.int .i64 x)).cell? ⟨w.heap.size+1,0,none⟩=some (.int .i64 x):=by simp [go_sem,hc]
 simp [Leaves,settle,results,Tryz.results43,go_sem,hs,hc];exact HW.out.setCell (Nat.le_succ _) _
def q2H (d:Nd):Nd:=⟨1,d.n,⟨0,false,⟨0,0,0,0⟩,⟨0,0,0,0⟩⟩,[],0,0,[],0,0⟩
def q2G (d:Nd):Nd:=⟨2,0,d.t,[],0,0,[],0,0⟩
def q2F (d:Nd):Nd:=⟨3,0,⟨0,false,⟨0,0,0,0⟩,⟨0,0,0,0⟩⟩,d.cs,0,0,[],0,0⟩
def q2E (d:Nd):Nd:=⟨4,0,⟨0,false,⟨0,0,0,0⟩,⟨0,0,0,0⟩⟩,[],d.a,d.b,[],0,0⟩
def q2D (d:Nd):Nd:=⟨5,0,⟨0,false,⟨0,0,0,0⟩,⟨0,0,0,0⟩⟩,[],0,0,[],0,0⟩
def q2C (d:Nd):Nd:=⟨6,0,⟨0,false,⟨0,0,0,0⟩,⟨0,0,0,0⟩⟩,[],0,0,[],0,0⟩
def q2O (d:Nd):Nd:=⟨7,0,⟨0,false,⟨0,0,0,0⟩,⟨0,0,0,0⟩⟩,[],0,0,d.ks,d.g,d.c⟩
theorem z3M (w:World):q1J w (.slice none 0 0) []:=⟨by decide,none,0,rfl,fun _=>rfl,fun h=>absurd rfl h⟩
theorem z3L (w:World):RawInts w (.slice none 0 0) []:=⟨by decide,none,0,rfl,fun _=>rfl,fun h=>absurd rfl h,by decide,by decide⟩
theorem j1B {w:World} {b:Nat} {t:TypeId} {l:List Value} (h:w.heap[b]? = some (.cells l.toArray t)):w.rangeAt b 0 l:=fun j v hv=>cell_at h (by rw [Nat.zero_add,List.getElem?_toArray]; exact hv)
theorem x1Q {w:World} {b:Nat} {x0 x1 v0 v1 v2 v3 v4 v5 v6 v7 v8 v9:Value} {l:List Value} (h:w.rangeAt b 0 (x0 :: x1 :: v0 :: v1 :: v2 :: v3 :: v4 :: v5 :: v6 :: v7 :: v8 :: v9 :: l)):w.rangeAt b 2 [v0,v1,v2,v3,v4,v5,v6,v7,v8,v9]:=by
 intro j v hv;have hj:j<10:=by have:=(List.getElem?_eq_some_iff.1 hv).1; simpa using this
 have k:=h (2+j) v (by
  rw [Nat.add_comm,List.getElem?_cons_succ,List.getElem?_cons_succ,<-hv]
  rw [show v0 :: v1 :: v2 :: v3 :: v4 :: v5 :: v6 :: v7 :: v8 :: v9 :: l=[v0,v1,v2,v3,v4,v5,v6,v7,v8,v9]++l from rfl,List.getElem?_append_left (by simpa using hj)])
 rw [Nat.zero_add] at k;exact k
theorem z2A {d e:Nd} (h:d.k≠e.k):d.eqB e=false:=by
 rw [Bool.eq_false_iff,Ne,Nd.eqB_iff];exact fun h'=>h (by rw [<-h'])
theorem mkI1 (x:Value) (w:World):(Instr.makeInterface 139 x).run Tryz.prog w = .ok (.iface 139 x) w:=run_makeInterface w 139 x (by kernel_rfl)
theorem infoK1:(Tryz.prog.info? 139).map (fun i=>(i.zero,i.size,i.bytes))=some (some (.agg #[.int .i64 0]),1,8):=by kernel_rfl
theorem mkI2 (x:Value) (w:World):(Instr.makeInterface 142 x).run Tryz.prog w = .ok (.iface 142 x) w:=run_makeInterface w 142 x (by kernel_rfl)
theorem infoK2:(Tryz.prog.info? 142).map (fun i=>(i.zero,i.size,i.bytes))=some (some (.agg #[.int .i64 0,.bool false,.int .i64 0,.int .i64 0,.int .i64 0,.int .i64 0,.int .i64 0,.int .i64 0,.int .i64 0,.int .i64 0]),10,80):=by kernel_rfl
theorem mkI3 (x:Value) (w:World):(Instr.makeInterface 144 x).run Tryz.prog w = .ok (.iface 144 x) w:=run_makeInterface w 144 x (by kernel_rfl)
theorem infoK3:(Tryz.prog.info? 144).map (fun i=>(i.zero,i.size,i.bytes))=some (some (.agg #[.slice none 0 0]),1,24):=by kernel_rfl
theorem mkI4 (x:Value) (w:World):(Instr.makeInterface 147 x).run Tryz.prog w = .ok (.iface 147 x) w:=run_makeInterface w 147 x (by kernel_rfl)
theorem infoK4:(Tryz.prog.info? 147).map (fun i=>(i.zero,i.size,i.bytes))=some (some (.agg #[.int .i64 0,.int .i64 0]),2,16):=by kernel_rfl
theorem mkI5 (x:Value) (w:World):(Instr.makeInterface 149 x).run Tryz.prog w = .ok (.iface 149 x) w:=run_makeInterface w 149 x (by kernel_rfl)
theorem infoK5:(Tryz.prog.info? 149).map (fun i=>(i.zero,i.size,i.bytes))=some (some (.agg #[]),0,0):=by kernel_rfl
theorem mkI6 (x:Value) (w:World):(Instr.makeInterface 151 x).run Tryz.prog w = .ok (.iface 151 x) w:=run_makeInterface w 151 x (by kernel_rfl)
theorem infoK6:(Tryz.prog.info? 151).map (fun i=>(i.zero,i.size,i.bytes))=some (some (.agg #[]),0,0):=by kernel_rfl
theorem mkI7 (x:Value) (w:World):(Instr.makeInterface 153 x).run Tryz.prog w = .ok (.iface 153 x) w:=run_makeInterface w 153 x (by kernel_rfl)
theorem infoK7:(Tryz.prog.info? 153).map (fun i=>(i.zero,i.size,i.bytes))=some (some (.agg #[.slice none 0 0,.int .i64 0,.int .i64 0]),3,40):=by kernel_rfl
theorem no2 {P:Prop} {d e f:Nd} (h:d=e) (h2:d=f) (hk:e.k≠f.k):P:=absurd (congrArg Nd.k (h.symm.trans h2)) hk
def kRes (d:Nd) (ca ka:Option Addr) (nc cc nk kc:Nat) (pa:Addr) (r:Ending):Prop:=(d=q2H d->∃ v,r = .returned v/\v = .iface 139 (.agg #[.int .i64 d.n]))/\(d=q2G d->∃ v,r = .returned v/\v = .iface 142 (.agg (t10 d.t).toArray))/\(d=q2F d->∃ v,r = .returned v/\v = .iface 144 (.agg #[.slice ca nc cc]))/\(d=q2E d->∃ v,r = .returned v/\v = .iface 147 (.agg #[.int .i64 d.a,.int .i64 d.b]))/\(d=q2D d->∃ v,r = .returned v/\v = .iface 149 (.agg #[]))/\(d=q2C d->∃ v,r = .returned v/\v = .iface 151 (.agg #[]))/\(d=q2O d->∃ v,r = .returned v/\v = .iface 153 (.agg #[.slice ka nk kc,.int .i64 d.g,.int .i64 d.c]))/\(d≠q2H d->d≠q2G d->d≠q2F d->d≠q2E d->d≠q2D d->d≠q2C d->d≠q2O d->r=x2M pa)
theorem v1T (d:Nd) (ca ka:Option Addr) (nc cc nk kc:Nat) (vd:Value) (w:World) (hc:q1J w (.slice ca nc cc) d.cs) (hk:RawInts w (.slice ka nk kc) d.ks) (hl1:d.cs.length<=140737488355328) (hl3:d.ks.length<=140737488355328) (pa:Addr) (hn:d≠q2H d->d≠q2G d->d≠q2F d->d≠q2E d->d≠q2D d->d≠q2C d->d≠q2O d->NoPlan w pa) :
  Calls Tryz.prog 58 #[.agg (z1J d (.slice ca nc cc) (.slice ka nk kc) vd).toArray] w fun r w'=>kRes d ca ka nc cc nk kc pa r/\Below w.heap.size w w':=by
 have HC:Hid (q1J w (.slice ca nc cc) d.cs):=hc;have HK:Hid (RawInts w (.slice ka nk kc) d.ks):=hk;have HL1:Hid (d.cs.length<=140737488355328):=hl1;have HL3:Hid (d.ks.length<=140737488355328):=hl3;have HN:Hid (d≠q2H d->d≠q2G d->d≠q2F d->d≠q2E d->d≠q2D d->d≠q2C d->d≠q2O d->NoPlan w pa):=hn;clear hn hc hk hl1 hl3;have HB0:Hid (Below w.heap.size w (w.alloc (.cells (z1J d (.slice ca nc cc) (.slice ka nk kc) vd).toArray 31))):=z1B _;have HA0:Hid ((w.alloc (.cells (z1J d (.slice ca nc cc) (.slice ka nk kc) vd).toArray 31)).heap[w.heap.size]? = some (.cells (z1J d (.slice ca nc cc) (.slice ka nk kc) vd).toArray 31)):=alloc_at _ _;obtain ⟨i0,hi,hz0,hz1,hz2⟩:=info_parts infoPlan19;have hla:(Tryz.prog.info? 31).map (·.size)=some (z1J d (.slice ca nc cc) (.slice ka nk kc) vd).length:=by kernel_rfl
 have hlt:(Tryz.prog.info? 26).map (·.size)=some (t10 d.t).length:=by kernel_rfl
 go_enter Tryz.func58,Tryz.ntmps58;have HR0:Hid ((w.alloc (.cells (z1J d (.slice ca nc cc) (.slice ka nk kc) vd).toArray 31)).rangeAt w.heap.size 0 (z1J d (.slice ca nc cc) (.slice ka nk kc) vd)):=j1B HA0.out;have HT0:Hid ((w.alloc (.cells (z1J d (.slice ca nc cc) (.slice ka nk kc) vd).toArray 31)).rangeAt w.heap.size 2 (t10 d.t)):=x1Q HR0.out;go_wp2_with (first | refine wpList_load_mid rfl 31 _ rfl w.heap.size 0 rfl _ _ HR0.out Tryz.underlying31 rfl hla ?_ | refine wpList_load_mid rfl 26 _ rfl w.heap.size 2 rfl _ _ HT0.out Tryz.underlying26 rfl hlt ?_);refine (v1Q d ⟨1,d.n,⟨0,false,⟨0,0,0,0⟩,⟨0,0,0,0⟩⟩,[],0,0,[],0,0⟩ _ _ _ _ _ _ _ (HC.out.below HB0.out) (z3M _) (HK.out.below HB0.out) (z3L _) HL1.out (Nat.zero_le _) HL3.out (Nat.zero_le _)).mono ?_;obtain ⟨b1,T1⟩:∃ b:Bool,Hid (d.eqB ⟨1,d.n,⟨0,false,⟨0,0,0,0⟩,⟨0,0,0,0⟩⟩,[],0,0,[],0,0⟩=b):=⟨_,rfl⟩;rw [T1.out];rintro r w1 ⟨rfl,hb⟩;have HB1:Hid (Below w.heap.size w w1):=z1A HB0.out hb;have HA1:Hid (w1.heap[w.heap.size]? = some (.cells (z1J d (.slice ca nc cc) (.slice ka nk kc) vd).toArray 31)):=z1F HA0.out hb;clear hb;have a1:w1.cell? ⟨w.heap.size,1,none⟩=some (.int .i64 d.n):=cell_at HA1.out rfl;have a12:w1.cell? ⟨w.heap.size,12,none⟩=some (.slice ca nc cc):=cell_at HA1.out rfl;have a13:w1.cell? ⟨w.heap.size,13,none⟩=some (.int .i64 d.a):=cell_at HA1.out rfl;have a14:w1.cell? ⟨w.heap.size,14,none⟩=some (.int .i64 d.b):=cell_at HA1.out rfl;have a15:w1.cell? ⟨w.heap.size,15,none⟩=some (.slice ka nk kc):=cell_at HA1.out rfl;have a16:w1.cell? ⟨w.heap.size,16,none⟩=some (.int .i64 d.g):=cell_at HA1.out rfl;have a17:w1.cell? ⟨w.heap.size,17,none⟩=some (.int .i64 d.c):=cell_at HA1.out rfl;cases b1 with
 | true=>
  have hmi:=mkI1;obtain ⟨i1,hj,hy0,hy1,hy2⟩:=info_parts infoK1;have HR1:Hid (w1.rangeAt w.heap.size 0 (z1J d (.slice ca nc cc) (.slice ka nk kc) vd)):=j1B HA1.out;have HT1:Hid (w1.rangeAt w.heap.size 2 (t10 d.t)):=x1Q HR1.out;go_wp2_with (first | refine wpList_load_mid rfl 31 _ rfl w.heap.size 0 rfl _ _ HR1.out Tryz.underlying31 rfl hla ?_ | refine wpList_load_mid rfl 26 _ rfl w.heap.size 2 rfl _ _ HT1.out Tryz.underlying26 rfl hlt ?_);go_ret;exact ⟨⟨fun _=>⟨_,rfl,rfl⟩,fun h=>no2 (Nd.eqB_iff.1 T1.out) h (by show (1:Int)≠2; decide),fun h=>no2 (Nd.eqB_iff.1 T1.out) h (by show (1:Int)≠3; decide),fun h=>no2 (Nd.eqB_iff.1 T1.out) h (by show (1:Int)≠4; decide),fun h=>no2 (Nd.eqB_iff.1 T1.out) h (by show (1:Int)≠5; decide),fun h=>no2 (Nd.eqB_iff.1 T1.out) h (by show (1:Int)≠6; decide),fun h=>no2 (Nd.eqB_iff.1 T1.out) h (by show (1:Int)≠7; decide),fun h1 h2 h3 h4 h5 h6 h7=>absurd (Nd.eqB_iff.1 T1.out) h1⟩,HB1.out⟩
 | false=>
  have HR1:Hid (w1.rangeAt w.heap.size 0 (z1J d (.slice ca nc cc) (.slice ka nk kc) vd)):=j1B HA1.out;have HT1:Hid (w1.rangeAt w.heap.size 2 (t10 d.t)):=x1Q HR1.out;go_wp2_with (first | refine wpList_load_mid rfl 31 _ rfl w.heap.size 0 rfl _ _ HR1.out Tryz.underlying31 rfl hla ?_ | refine wpList_load_mid rfl 26 _ rfl w.heap.size 2 rfl _ _ HT1.out Tryz.underlying26 rfl hlt ?_);refine (v1Q d ⟨2,0,d.t,[],0,0,[],0,0⟩ _ _ _ _ _ _ _ (HC.out.below HB1.out) (z3M _) (HK.out.below HB1.out) (z3L _) HL1.out (Nat.zero_le _) HL3.out (Nat.zero_le _)).mono ?_;obtain ⟨b2,T2⟩:∃ b:Bool,Hid (d.eqB ⟨2,0,d.t,[],0,0,[],0,0⟩=b):=⟨_,rfl⟩;rw [T2.out];rintro r w2 ⟨rfl,hb⟩;have HB2:Hid (Below w.heap.size w w2):=z1A HB1.out hb;have HA2:Hid (w2.heap[w.heap.size]? = some (.cells (z1J d (.slice ca nc cc) (.slice ka nk kc) vd).toArray 31)):=z1F HA1.out hb;clear hb HR1 HT1 HA1 HB1 a1 a12 a13 a14 a15 a16 a17;have a1:w2.cell? ⟨w.heap.size,1,none⟩=some (.int .i64 d.n):=cell_at HA2.out rfl;have a12:w2.cell? ⟨w.heap.size,12,none⟩=some (.slice ca nc cc):=cell_at HA2.out rfl;have a13:w2.cell? ⟨w.heap.size,13,none⟩=some (.int .i64 d.a):=cell_at HA2.out rfl;have a14:w2.cell? ⟨w.heap.size,14,none⟩=some (.int .i64 d.b):=cell_at HA2.out rfl;have a15:w2.cell? ⟨w.heap.size,15,none⟩=some (.slice ka nk kc):=cell_at HA2.out rfl;have a16:w2.cell? ⟨w.heap.size,16,none⟩=some (.int .i64 d.g):=cell_at HA2.out rfl;have a17:w2.cell? ⟨w.heap.size,17,none⟩=some (.int .i64 d.c):=cell_at HA2.out rfl;cases b2 with
  | true=>
   have hmi:=mkI2;obtain ⟨i1,hj,hy0,hy1,hy2⟩:=info_parts infoK2;have HR2:Hid (w2.rangeAt w.heap.size 0 (z1J d (.slice ca nc cc) (.slice ka nk kc) vd)):=j1B HA2.out;have HT2:Hid (w2.rangeAt w.heap.size 2 (t10 d.t)):=x1Q HR2.out;go_wp2_with (first | refine wpList_load_mid rfl 31 _ rfl w.heap.size 0 rfl _ _ HR2.out Tryz.underlying31 rfl hla ?_ | refine wpList_load_mid rfl 26 _ rfl w.heap.size 2 rfl _ _ HT2.out Tryz.underlying26 rfl hlt ?_);go_ret;exact ⟨⟨fun h=>no2 (Nd.eqB_iff.1 T2.out) h (by show (2:Int)≠1; decide),fun _=>⟨_,rfl,rfl⟩,fun h=>no2 (Nd.eqB_iff.1 T2.out) h (by show (2:Int)≠3; decide),fun h=>no2 (Nd.eqB_iff.1 T2.out) h (by show (2:Int)≠4; decide),fun h=>no2 (Nd.eqB_iff.1 T2.out) h (by show (2:Int)≠5; decide),fun h=>no2 (Nd.eqB_iff.1 T2.out) h (by show (2:Int)≠6; decide),fun h=>no2 (Nd.eqB_iff.1 T2.out) h (by show (2:Int)≠7; decide),fun h1 h2 h3 h4 h5 h6 h7=>absurd (Nd.eqB_iff.1 T2.out) h2⟩,HB2.out⟩
  | false=>
   have HR2:Hid (w2.rangeAt w.heap.size 0 (z1J d (.slice ca nc cc) (.slice ka nk kc) vd)):=j1B HA2.out;have HT2:Hid (w2.rangeAt w.heap.size 2 (t10 d.t)):=x1Q HR2.out;go_wp2_with (first | refine wpList_load_mid rfl 31 _ rfl w.heap.size 0 rfl _ _ HR2.out Tryz.underlying31 rfl hla ?_ | refine wpList_load_mid rfl 26 _ rfl w.heap.size 2 rfl _ _ HT2.out Tryz.underlying26 rfl hlt ?_);refine (v1Q d ⟨3,0,⟨0,false,⟨0,0,0,0⟩,⟨0,0,0,0⟩⟩,d.cs,0,0,[],0,0⟩ _ _ _ _ _ _ _ (HC.out.below HB2.out) (HC.out.below HB2.out) (HK.out.below HB2.out) (z3L _) HL1.out HL1.out HL3.out (Nat.zero_le _)).mono ?_;obtain ⟨b3,T3⟩:∃ b:Bool,Hid (d.eqB ⟨3,0,⟨0,false,⟨0,0,0,0⟩,⟨0,0,0,0⟩⟩,d.cs,0,0,[],0,0⟩=b):=⟨_,rfl⟩;rw [T3.out];rintro r w3 ⟨rfl,hb⟩;have HB3:Hid (Below w.heap.size w w3):=z1A HB2.out hb;have HA3:Hid (w3.heap[w.heap.size]? = some (.cells (z1J d (.slice ca nc cc) (.slice ka nk kc) vd).toArray 31)):=z1F HA2.out hb;clear hb HR2 HT2 HA2 HB2 a1 a12 a13 a14 a15 a16 a17;have a1:w3.cell? ⟨w.heap.size,1,none⟩=some (.int .i64 d.n):=cell_at HA3.out rfl;have a12:w3.cell? ⟨w.heap.size,12,none⟩=some (.slice ca nc cc):=cell_at HA3.out rfl;have a13:w3.cell? ⟨w.heap.size,13,none⟩=some (.int .i64 d.a):=cell_at HA3.out rfl;have a14:w3.cell? ⟨w.heap.size,14,none⟩=some (.int .i64 d.b):=cell_at HA3.out rfl;have a15:w3.cell? ⟨w.heap.size,15,none⟩=some (.slice ka nk kc):=cell_at HA3.out rfl;have a16:w3.cell? ⟨w.heap.size,16,none⟩=some (.int .i64 d.g):=cell_at HA3.out rfl;have a17:w3.cell? ⟨w.heap.size,17,none⟩=some (.int .i64 d.c):=cell_at HA3.out rfl;cases b3 with
   | true=>
    have hmi:=mkI3;obtain ⟨i1,hj,hy0,hy1,hy2⟩:=info_parts infoK3;have HR3:Hid (w3.rangeAt w.heap.size 0 (z1J d (.slice ca nc cc) (.slice ka nk kc) vd)):=j1B HA3.out;have HT3:Hid (w3.rangeAt w.heap.size 2 (t10 d.t)):=x1Q HR3.out;go_wp2_with (first | refine wpList_load_mid rfl 31 _ rfl w.heap.size 0 rfl _ _ HR3.out Tryz.underlying31 rfl hla ?_ | refine wpList_load_mid rfl 26 _ rfl w.heap.size 2 rfl _ _ HT3.out Tryz.underlying26 rfl hlt ?_);go_ret;exact ⟨⟨fun h=>no2 (Nd.eqB_iff.1 T3.out) h (by show (3:Int)≠1; decide),fun h=>no2 (Nd.eqB_iff.1 T3.out) h (by show (3:Int)≠2; decide),fun _=>⟨_,rfl,rfl⟩,fun h=>no2 (Nd.eqB_iff.1 T3.out) h (by show (3:Int)≠4; decide),fun h=>no2 (Nd.eqB_iff.1 T3.out) h (by show (3:Int)≠5; decide),fun h=>no2 (Nd.eqB_iff.1 T3.out) h (by show (3:Int)≠6; decide),fun h=>no2 (Nd.eqB_iff.1 T3.out) h (by show (3:Int)≠7; decide),fun h1 h2 h3 h4 h5 h6 h7=>absurd (Nd.eqB_iff.1 T3.out) h3⟩,HB3.out⟩
   | false=>
    have HR3:Hid (w3.rangeAt w.heap.size 0 (z1J d (.slice ca nc cc) (.slice ka nk kc) vd)):=j1B HA3.out;have HT3:Hid (w3.rangeAt w.heap.size 2 (t10 d.t)):=x1Q HR3.out;go_wp2_with (first | refine wpList_load_mid rfl 31 _ rfl w.heap.size 0 rfl _ _ HR3.out Tryz.underlying31 rfl hla ?_ | refine wpList_load_mid rfl 26 _ rfl w.heap.size 2 rfl _ _ HT3.out Tryz.underlying26 rfl hlt ?_);refine (v1Q d ⟨4,0,⟨0,false,⟨0,0,0,0⟩,⟨0,0,0,0⟩⟩,[],d.a,d.b,[],0,0⟩ _ _ _ _ _ _ _ (HC.out.below HB3.out) (z3M _) (HK.out.below HB3.out) (z3L _) HL1.out (Nat.zero_le _) HL3.out (Nat.zero_le _)).mono ?_;obtain ⟨b4,T4⟩:∃ b:Bool,Hid (d.eqB ⟨4,0,⟨0,false,⟨0,0,0,0⟩,⟨0,0,0,0⟩⟩,[],d.a,d.b,[],0,0⟩=b):=⟨_,rfl⟩;rw [T4.out];rintro r w4 ⟨rfl,hb⟩;have HB4:Hid (Below w.heap.size w w4):=z1A HB3.out hb;have HA4:Hid (w4.heap[w.heap.size]? = some (.cells (z1J d (.slice ca nc cc) (.slice ka nk kc) vd).toArray 31)):=z1F HA3.out hb;clear hb HR3 HT3 HA3 HB3 a1 a12 a13 a14 a15 a16 a17;have a1:w4.cell? ⟨w.heap.size,1,none⟩=some (.int .i64 d.n):=cell_at HA4.out rfl;have a12:w4.cell? ⟨w.heap.size,12,none⟩=some (.slice ca nc cc):=cell_at HA4.out rfl;have a13:w4.cell? ⟨w.heap.size,13,none⟩=some (.int .i64 d.a):=cell_at HA4.out rfl;have a14:w4.cell? ⟨w.heap.size,14,none⟩=some (.int .i64 d.b):=cell_at HA4.out rfl;have a15:w4.cell? ⟨w.heap.size,15,none⟩=some (.slice ka nk kc):=cell_at HA4.out rfl;have a16:w4.cell? ⟨w.heap.size,16,none⟩=some (.int .i64 d.g):=cell_at HA4.out rfl;have a17:w4.cell? ⟨w.heap.size,17,none⟩=some (.int .i64 d.c):=cell_at HA4.out rfl;cases b4 with
    | true=>
     have hmi:=mkI4;obtain ⟨i1,hj,hy0,hy1,hy2⟩:=info_parts infoK4;have HR4:Hid (w4.rangeAt w.heap.size 0 (z1J d (.slice ca nc cc) (.slice ka nk kc) vd)):=j1B HA4.out;have HT4:Hid (w4.rangeAt w.heap.size 2 (t10 d.t)):=x1Q HR4.out;go_wp2_with (first | refine wpList_load_mid rfl 31 _ rfl w.heap.size 0 rfl _ _ HR4.out Tryz.underlying31 rfl hla ?_ | refine wpList_load_mid rfl 26 _ rfl w.heap.size 2 rfl _ _ HT4.out Tryz.underlying26 rfl hlt ?_);go_ret;exact ⟨⟨fun h=>no2 (Nd.eqB_iff.1 T4.out) h (by show (4:Int)≠1; decide),fun h=>no2 (Nd.eqB_iff.1 T4.out) h (by show (4:Int)≠2; decide),fun h=>no2 (Nd.eqB_iff.1 T4.out) h (by show (4:Int)≠3; decide),fun _=>⟨_,rfl,rfl⟩,fun h=>no2 (Nd.eqB_iff.1 T4.out) h (by show (4:Int)≠5; decide),fun h=>no2 (Nd.eqB_iff.1 T4.out) h (by show (4:Int)≠6; decide),fun h=>no2 (Nd.eqB_iff.1 T4.out) h (by show (4:Int)≠7; decide),fun h1 h2 h3 h4 h5 h6 h7=>absurd (Nd.eqB_iff.1 T4.out) h4⟩,HB4.out⟩
    | false=>
     have HR4:Hid (w4.rangeAt w.heap.size 0 (z1J d (.slice ca nc cc) (.slice ka nk kc) vd)):=j1B HA4.out;have HT4:Hid (w4.rangeAt w.heap.size 2 (t10 d.t)):=x1Q HR4.out;go_wp2_with (first | refine wpList_load_mid rfl 31 _ rfl w.heap.size 0 rfl _ _ HR4.out Tryz.underlying31 rfl hla ?_ | refine wpList_load_mid rfl 26 _ rfl w.heap.size 2 rfl _ _ HT4.out Tryz.underlying26 rfl hlt ?_);refine (v1Q d ⟨5,0,⟨0,false,⟨0,0,0,0⟩,⟨0,0,0,0⟩⟩,[],0,0,[],0,0⟩ _ _ _ _ _ _ _ (HC.out.below HB4.out) (z3M _) (HK.out.below HB4.out) (z3L _) HL1.out (Nat.zero_le _) HL3.out (Nat.zero_le _)).mono ?_;obtain ⟨b5,T5⟩:∃ b:Bool,Hid (d.eqB ⟨5,0,⟨0,false,⟨0,0,0,0⟩,⟨0,0,0,0⟩⟩,[],0,0,[],0,0⟩=b):=⟨_,rfl⟩;rw [T5.out];rintro r w5 ⟨rfl,hb⟩;have HB5:Hid (Below w.heap.size w w5):=z1A HB4.out hb;have HA5:Hid (w5.heap[w.heap.size]? = some (.cells (z1J d (.slice ca nc cc) (.slice ka nk kc) vd).toArray 31)):=z1F HA4.out hb;clear hb HR4 HT4 HA4 HB4 a1 a12 a13 a14 a15 a16 a17;have a1:w5.cell? ⟨w.heap.size,1,none⟩=some (.int .i64 d.n):=cell_at HA5.out rfl;have a12:w5.cell? ⟨w.heap.size,12,none⟩=some (.slice ca nc cc):=cell_at HA5.out rfl;have a13:w5.cell? ⟨w.heap.size,13,none⟩=some (.int .i64 d.a):=cell_at HA5.out rfl;have a14:w5.cell? ⟨w.heap.size,14,none⟩=some (.int .i64 d.b):=cell_at HA5.out rfl;have a15:w5.cell? ⟨w.heap.size,15,none⟩=some (.slice ka nk kc):=cell_at HA5.out rfl;have a16:w5.cell? ⟨w.heap.size,16,none⟩=some (.int .i64 d.g):=cell_at HA5.out rfl;have a17:w5.cell? ⟨w.heap.size,17,none⟩=some (.int .i64 d.c):=cell_at HA5.out rfl;cases b5 with
     | true=>
      have hmi:=mkI5;obtain ⟨i1,hj,hy0,hy1,hy2⟩:=info_parts infoK5;have HR5:Hid (w5.rangeAt w.heap.size 0 (z1J d (.slice ca nc cc) (.slice ka nk kc) vd)):=j1B HA5.out;have HT5:Hid (w5.rangeAt w.heap.size 2 (t10 d.t)):=x1Q HR5.out;go_wp2_with (first | refine wpList_load_mid rfl 31 _ rfl w.heap.size 0 rfl _ _ HR5.out Tryz.underlying31 rfl hla ?_ | refine wpList_load_mid rfl 26 _ rfl w.heap.size 2 rfl _ _ HT5.out Tryz.underlying26 rfl hlt ?_);go_ret;exact ⟨⟨fun h=>no2 (Nd.eqB_iff.1 T5.out) h (by show (5:Int)≠1; decide),fun h=>no2 (Nd.eqB_iff.1 T5.out) h (by show (5:Int)≠2; decide),fun h=>no2 (Nd.eqB_iff.1 T5.out) h (by show (5:Int)≠3; decide),fun h=>no2 (Nd.eqB_iff.1 T5.out) h (by show (5:Int)≠4; decide),fun _=>⟨_,rfl,rfl⟩,fun h=>no2 (Nd.eqB_iff.1 T5.out) h (by show (5:Int)≠6; decide),fun h=>no2 (Nd.eqB_iff.1 T5.out) h (by show (5:Int)≠7; decide),fun h1 h2 h3 h4 h5 h6 h7=>absurd (Nd.eqB_iff.1 T5.out) h5⟩,HB5.out⟩
     | false=>
      have HR5:Hid (w5.rangeAt w.heap.size 0 (z1J d (.slice ca nc cc) (.slice ka nk kc) vd)):=j1B HA5.out;have HT5:Hid (w5.rangeAt w.heap.size 2 (t10 d.t)):=x1Q HR5.out;go_wp2_with (first | refine wpList_load_mid rfl 31 _ rfl w.heap.size 0 rfl _ _ HR5.out Tryz.underlying31 rfl hla ?_ | refine wpList_load_mid rfl 26 _ rfl w.heap.size 2 rfl _ _ HT5.out Tryz.underlying26 rfl hlt ?_);refine (v1Q d ⟨6,0,⟨0,false,⟨0,0,0,0⟩,⟨0,0,0,0⟩⟩,[],0,0,[],0,0⟩ _ _ _ _ _ _ _ (HC.out.below HB5.out) (z3M _) (HK.out.below HB5.out) (z3L _) HL1.out (Nat.zero_le _) HL3.out (Nat.zero_le _)).mono ?_;obtain ⟨b6,T6⟩:∃ b:Bool,Hid (d.eqB ⟨6,0,⟨0,false,⟨0,0,0,0⟩,⟨0,0,0,0⟩⟩,[],0,0,[],0,0⟩=b):=⟨_,rfl⟩;rw [T6.out];rintro r w6 ⟨rfl,hb⟩;have HB6:Hid (Below w.heap.size w w6):=z1A HB5.out hb;have HA6:Hid (w6.heap[w.heap.size]? = some (.cells (z1J d (.slice ca nc cc) (.slice ka nk kc) vd).toArray 31)):=z1F HA5.out hb;clear hb HR5 HT5 HA5 HB5 a1 a12 a13 a14 a15 a16 a17;have a1:w6.cell? ⟨w.heap.size,1,none⟩=some (.int .i64 d.n):=cell_at HA6.out rfl;have a12:w6.cell? ⟨w.heap.size,12,none⟩=some (.slice ca nc cc):=cell_at HA6.out rfl;have a13:w6.cell? ⟨w.heap.size,13,none⟩=some (.int .i64 d.a):=cell_at HA6.out rfl;have a14:w6.cell? ⟨w.heap.size,14,none⟩=some (.int .i64 d.b):=cell_at HA6.out rfl;have a15:w6.cell? ⟨w.heap.size,15,none⟩=some (.slice ka nk kc):=cell_at HA6.out rfl;have a16:w6.cell? ⟨w.heap.size,16,none⟩=some (.int .i64 d.g):=cell_at HA6.out rfl;have a17:w6.cell? ⟨w.heap.size,17,none⟩=some (.int .i64 d.c):=cell_at HA6.out rfl;cases b6 with
      | true=>
       have hmi:=mkI6;obtain ⟨i1,hj,hy0,hy1,hy2⟩:=info_parts infoK6;have HR6:Hid (w6.rangeAt w.heap.size 0 (z1J d (.slice ca nc cc) (.slice ka nk kc) vd)):=j1B HA6.out;have HT6:Hid (w6.rangeAt w.heap.size 2 (t10 d.t)):=x1Q HR6.out;go_wp2_with (first | refine wpList_load_mid rfl 31 _ rfl w.heap.size 0 rfl _ _ HR6.out Tryz.underlying31 rfl hla ?_ | refine wpList_load_mid rfl 26 _ rfl w.heap.size 2 rfl _ _ HT6.out Tryz.underlying26 rfl hlt ?_);go_ret;exact ⟨⟨fun h=>no2 (Nd.eqB_iff.1 T6.out) h (by show (6:Int)≠1; decide),fun h=>no2 (Nd.eqB_iff.1 T6.out) h (by show (6:Int)≠2; decide),fun h=>no2 (Nd.eqB_iff.1 T6.out) h (by show (6:Int)≠3; decide),fun h=>no2 (Nd.eqB_iff.1 T6.out) h (by show (6:Int)≠4; decide),fun h=>no2 (Nd.eqB_iff.1 T6.out) h (by show (6:Int)≠5; decide),fun _=>⟨_,rfl,rfl⟩,fun h=>no2 (Nd.eqB_iff.1 T6.out) h (by show (6:Int)≠7; decide),fun h1 h2 h3 h4 h5 h6 h7=>absurd (Nd.eqB_iff.1 T6.out) h6⟩,HB6.out⟩
      | false=>
       have HR6:Hid (w6.rangeAt w.heap.size 0 (z1J d (.slice ca nc cc) (.slice ka nk kc) vd)):=j1B HA6.out;have HT6:Hid (w6.rangeAt w.heap.size 2 (t10 d.t)):=x1Q HR6.out;go_wp2_with (first | refine wpList_load_mid rfl 31 _ rfl w.heap.size 0 rfl _ _ HR6.out Tryz.underlying31 rfl hla ?_ | refine wpList_load_mid rfl 26 _ rfl w.heap.size 2 rfl _ _ HT6.out Tryz.underlying26 rfl hlt ?_);refine (v1Q d ⟨7,0,⟨0,false,⟨0,0,0,0⟩,⟨0,0,0,0⟩⟩,[],0,0,d.ks,d.g,d.c⟩ _ _ _ _ _ _ _ (HC.out.below HB6.out) (z3M _) (HK.out.below HB6.out) (HK.out.below HB6.out) HL1.out (Nat.zero_le _) HL3.out HL3.out).mono ?_;obtain ⟨b7,T7⟩:∃ b:Bool,Hid (d.eqB ⟨7,0,⟨0,false,⟨0,0,0,0⟩,⟨0,0,0,0⟩⟩,[],0,0,d.ks,d.g,d.c⟩=b):=⟨_,rfl⟩;rw [T7.out];rintro r w7 ⟨rfl,hb⟩;have HB7:Hid (Below w.heap.size w w7):=z1A HB6.out hb;have HA7:Hid (w7.heap[w.heap.size]? = some (.cells (z1J d (.slice ca nc cc) (.slice ka nk kc) vd).toArray 31)):=z1F HA6.out hb;clear hb HR6 HT6 HA6 HB6 a1 a12 a13 a14 a15 a16 a17;have a1:w7.cell? ⟨w.heap.size,1,none⟩=some (.int .i64 d.n):=cell_at HA7.out rfl;have a12:w7.cell? ⟨w.heap.size,12,none⟩=some (.slice ca nc cc):=cell_at HA7.out rfl;have a13:w7.cell? ⟨w.heap.size,13,none⟩=some (.int .i64 d.a):=cell_at HA7.out rfl;have a14:w7.cell? ⟨w.heap.size,14,none⟩=some (.int .i64 d.b):=cell_at HA7.out rfl;have a15:w7.cell? ⟨w.heap.size,15,none⟩=some (.slice ka nk kc):=cell_at HA7.out rfl;have a16:w7.cell? ⟨w.heap.size,16,none⟩=some (.int .i64 d.g):=cell_at HA7.out rfl;have a17:w7.cell? ⟨w.heap.size,17,none⟩=some (.int .i64 d.c):=cell_at HA7.out rfl;cases b7 with
       | true=>
        have hmi:=mkI7;obtain ⟨i1,hj,hy0,hy1,hy2⟩:=info_parts infoK7;have HR7:Hid (w7.rangeAt w.heap.size 0 (z1J d (.slice ca nc cc) (.slice ka nk kc) vd)):=j1B HA7.out;have HT7:Hid (w7.rangeAt w.heap.size 2 (t10 d.t)):=x1Q HR7.out;go_wp2_with (first | refine wpList_load_mid rfl 31 _ rfl w.heap.size 0 rfl _ _ HR7.out Tryz.underlying31 rfl hla ?_ | refine wpList_load_mid rfl 26 _ rfl w.heap.size 2 rfl _ _ HT7.out Tryz.underlying26 rfl hlt ?_);go_ret;exact ⟨⟨fun h=>no2 (Nd.eqB_iff.1 T7.out) h (by show (7:Int)≠1; decide),fun h=>no2 (Nd.eqB_iff.1 T7.out) h (by show (7:Int)≠2; decide),fun h=>no2 (Nd.eqB_iff.1 T7.out) h (by show (7:Int)≠3; decide),fun h=>no2 (Nd.eqB_iff.1 T7.out) h (by show (7:Int)≠4; decide),fun h=>no2 (Nd.eqB_iff.1 T7.out) h (by show (7:Int)≠5; decide),fun h=>no2 (Nd.eqB_iff.1 T7.out) h (by show (7:Int)≠6; decide),fun _=>⟨_,rfl,rfl⟩,fun h1 h2 h3 h4 h5 h6 h7=>absurd (Nd.eqB_iff.1 T7.out) h7⟩,HB7.out⟩
       | false=>
        have n1:=fun h=>Bool.false_ne_true (T1.out.symm.trans (Nd.eqB_iff.2 h));have n2:=fun h=>Bool.false_ne_true (T2.out.symm.trans (Nd.eqB_iff.2 h));have n3:=fun h=>Bool.false_ne_true (T3.out.symm.trans (Nd.eqB_iff.2 h));have n4:=fun h=>Bool.false_ne_true (T4.out.symm.trans (Nd.eqB_iff.2 h));have n5:=fun h=>Bool.false_ne_true (T5.out.symm.trans (Nd.eqB_iff.2 h));have n6:=fun h=>Bool.false_ne_true (T6.out.symm.trans (Nd.eqB_iff.2 h));have n7:=fun h=>Bool.false_ne_true (T7.out.symm.trans (Nd.eqB_iff.2 h));have HG:Hid (NoPlan w pa):=HN.out n1 n2 n3 n4 n5 n6 n7;have hg:=(HG.out.below HB7.out).2;have HX:Hid (kRes d ca ka nc cc nk kc pa (x2M pa)):=⟨fun h=>absurd h n1,fun h=>absurd h n2,fun h=>absurd h n3,fun h=>absurd h n4,fun h=>absurd h n5,fun h=>absurd h n6,fun h=>absurd h n7,fun _ _ _ _ _ _ _=>rfl⟩;clear n1 n2 n3 n4 n5 n6 n7;have HR7:Hid (w7.rangeAt w.heap.size 0 (z1J d (.slice ca nc cc) (.slice ka nk kc) vd)):=j1B HA7.out;have HT7:Hid (w7.rangeAt w.heap.size 2 (t10 d.t)):=x1Q HR7.out;go_wp2_with (first | refine wpList_load_mid rfl 31 _ rfl w.heap.size 0 rfl _ _ HR7.out Tryz.underlying31 rfl hla ?_ | refine wpList_load_mid rfl 26 _ rfl w.heap.size 2 rfl _ _ HT7.out Tryz.underlying26 rfl hlt ?_);exact ⟨rfl,HX.out,HB7.out⟩
theorem k4N (d:Nd) (ca ka:Option Addr) (nc cc nk kc:Nat) (vd:Value) (w:World) (hc:q1J w (.slice ca nc cc) d.cs) (hk:RawInts w (.slice ka nk kc) d.ks) (hl1:d.cs.length<=140737488355328) (hl3:d.ks.length<=140737488355328) (h:d=q2H d) :
  Calls Tryz.prog 58 #[.agg (z1J d (.slice ca nc cc) (.slice ka nk kc) vd).toArray] w fun r w'=>(∃ v,r = .returned v/\v = .iface 139 (.agg #[.int .i64 d.n]))/\Below w.heap.size w w':=
 (v1T d ca ka nc cc nk kc vd w hc hk hl1 hl3 ⟨0,0,none⟩ (fun h1 h2 h3 h4 h5 h6 h7=>absurd h h1)).mono fun r w' h'=>⟨h'.1.1 h,h'.2⟩
theorem k4M (d:Nd) (ca ka:Option Addr) (nc cc nk kc:Nat) (vd:Value) (w:World) (hc:q1J w (.slice ca nc cc) d.cs) (hk:RawInts w (.slice ka nk kc) d.ks) (hl1:d.cs.length<=140737488355328) (hl3:d.ks.length<=140737488355328) (h:d=q2G d) :
  Calls Tryz.prog 58 #[.agg (z1J d (.slice ca nc cc) (.slice ka nk kc) vd).toArray] w fun r w'=>(∃ v,r = .returned v/\v = .iface 142 (.agg (t10 d.t).toArray))/\Below w.heap.size w w':=
 (v1T d ca ka nc cc nk kc vd w hc hk hl1 hl3 ⟨0,0,none⟩ (fun h1 h2 h3 h4 h5 h6 h7=>absurd h h2)).mono fun r w' h'=>⟨h'.1.2.1 h,h'.2⟩
theorem k4L (d:Nd) (ca ka:Option Addr) (nc cc nk kc:Nat) (vd:Value) (w:World) (hc:q1J w (.slice ca nc cc) d.cs) (hk:RawInts w (.slice ka nk kc) d.ks) (hl1:d.cs.length<=140737488355328) (hl3:d.ks.length<=140737488355328) (h:d=q2F d) :
  Calls Tryz.prog 58 #[.agg (z1J d (.slice ca nc cc) (.slice ka nk kc) vd).toArray] w fun r w'=>(∃ v,r = .returned v/\v = .iface 144 (.agg #[.slice ca nc cc]))/\Below w.heap.size w w':=
 (v1T d ca ka nc cc nk kc vd w hc hk hl1 hl3 ⟨0,0,none⟩ (fun h1 h2 h3 h4 h5 h6 h7=>absurd h h3)).mono fun r w' h'=>⟨h'.1.2.2.1 h,h'.2⟩
theorem k4K (d:Nd) (ca ka:Option Addr) (nc cc nk kc:Nat) (vd:Value) (w:World) (hc:q1J w (.slice ca nc cc) d.cs) (hk:RawInts w (.slice ka nk kc) d.ks) (hl1:d.cs.length<=140737488355328) (hl3:d.ks.length<=140737488355328) (h:d=q2E d) :
  Calls Tryz.prog 58 #[.agg (z1J d (.slice ca nc cc) (.slice ka nk kc) vd).toArray] w fun r w'=>(∃ v,r = .returned v/\v = .iface 147 (.agg #[.int .i64 d.a,.int .i64 d.b]))/\Below w.heap.size w w':=
 (v1T d ca ka nc cc nk kc vd w hc hk hl1 hl3 ⟨0,0,none⟩ (fun h1 h2 h3 h4 h5 h6 h7=>absurd h h4)).mono fun r w' h'=>⟨h'.1.2.2.2.1 h,h'.2⟩
theorem k4J (d:Nd) (ca ka:Option Addr) (nc cc nk kc:Nat) (vd:Value) (w:World) (hc:q1J w (.slice ca nc cc) d.cs) (hk:RawInts w (.slice ka nk kc) d.ks) (hl1:d.cs.length<=140737488355328) (hl3:d.ks.length<=140737488355328) (h:d=q2D d) :
  Calls Tryz.prog 58 #[.agg (z1J d (.slice ca nc cc) (.slice ka nk kc) vd).toArray] w fun r w'=>(∃ v,r = .returned v/\v = .iface 149 (.agg #[]))/\Below w.heap.size w w':=
 (v1T d ca ka nc cc nk kc vd w hc hk hl1 hl3 ⟨0,0,none⟩ (fun h1 h2 h3 h4 h5 h6 h7=>absurd h h5)).mono fun r w' h'=>⟨h'.1.2.2.2.2.1 h,h'.2⟩
theorem k4I (d:Nd) (ca ka:Option Addr) (nc cc nk kc:Nat) (vd:Value) (w:World) (hc:q1J w (.slice ca nc cc) d.cs) (hk:RawInts w (.slice ka nk kc) d.ks) (hl1:d.cs.length<=140737488355328) (hl3:d.ks.length<=140737488355328) (h:d=q2C d) :
  Calls Tryz.prog 58 #[.agg (z1J d (.slice ca nc cc) (.slice ka nk kc) vd).toArray] w fun r w'=>(∃ v,r = .returned v/\v = .iface 151 (.agg #[]))/\Below w.heap.size w w':=
 (v1T d ca ka nc cc nk kc vd w hc hk hl1 hl3 ⟨0,0,none⟩ (fun h1 h2 h3 h4 h5 h6 h7=>absurd h h6)).mono fun r w' h'=>⟨h'.1.2.2.2.2.2.1 h,h'.2⟩
theorem k4H (d:Nd) (ca ka:Option Addr) (nc cc nk kc:Nat) (vd:Value) (w:World) (hc:q1J w (.slice ca nc cc) d.cs) (hk:RawInts w (.slice ka nk kc) d.ks) (hl1:d.cs.length<=140737488355328) (hl3:d.ks.length<=140737488355328) (h:d=q2O d) :
  Calls Tryz.prog 58 #[.agg (z1J d (.slice ca nc cc) (.slice ka nk kc) vd).toArray] w fun r w'=>(∃ v,r = .returned v/\v = .iface 153 (.agg #[.slice ka nk kc,.int .i64 d.g,.int .i64 d.c]))/\Below w.heap.size w w':=
 (v1T d ca ka nc cc nk kc vd w hc hk hl1 hl3 ⟨0,0,none⟩ (fun h1 h2 h3 h4 h5 h6 h7=>absurd h h7)).mono fun r w' h'=>⟨h'.1.2.2.2.2.2.2.1 h,h'.2⟩
theorem kindOf8 (d:Nd) (ca ka:Option Addr) (nc cc nk kc:Nat) (vd:Value) (w:World) (hc:q1J w (.slice ca nc cc) d.cs) (hk:RawInts w (.slice ka nk kc) d.ks) (hl1:d.cs.length<=140737488355328) (hl3:d.ks.length<=140737488355328) (pa:Addr) (hn:NoPlan w pa) (h1:d≠q2H d) (h2:d≠q2G d) (h3:d≠q2F d) (h4:d≠q2E d) (h5:d≠q2D d) (h6:d≠q2C d) (h7:d≠q2O d) :
  Calls Tryz.prog 58 #[.agg (z1J d (.slice ca nc cc) (.slice ka nk kc) vd).toArray] w fun r w'=>(r=x2M pa)/\Below w.heap.size w w':=
 (v1T d ca ka nc cc nk kc vd w hc hk hl1 hl3 pa (fun _ _ _ _ _ _ _=>hn)).mono fun r w' h'=>⟨h'.1.2.2.2.2.2.2.2 h1 h2 h3 h4 h5 h6 h7,h'.2⟩
end Go.Proofs.YtmjaepdplbgohaaGreatDoor.Kd
