/- Part of the proof of laws.FnMean: Base, TextMath, Ints, CellMath, TestEq, PlanMath, Lits, Tk, Own. -/
import Derived.Test.YtmjaepdplbgohaaGreatDoorRows
import Derived.WalkKit
import Derived.BigQuiet
import Derived.WalkSmall
import Derived.Deep.QuietTactic
import Derived.Lib.ItoaNum
import Derived.Lib.ItoaLen
import Derived.Deep.RegionHeld
import Derived.Laws.AppendOwnNone
set_option maxRecDepth 100000
set_option maxHeartbeats 16000000
set_option linter.unusedVariables false
set_option linter.unusedSimpArgs false
namespace Go.Proofs.YtmjaepdplbgohaaGreatDoor
open Go.RowKit
def z1E (w:World) (v:Value) (xs:List Int):Prop:=
 xs.length<=140737488355328/\∃ (a:Option Addr) (cap:Nat),v = .slice a xs.length cap/\(a=none->cap=0) ∧
  (xs≠[]->∃ b off,a=some ⟨b,off,none⟩/\b<w.heap.size/\∀ j,j<xs.length->w.cell? ⟨b,off+j,none⟩=some (.int .i64 (xs.getD j 0)))
theorem z1E.below {w w':World} {v:Value} {xs:List Int} (h:z1E w v xs) (hb:Below w.heap.size w w'):z1E w' v xs:=by
 obtain ⟨hl,a,cap,rfl,hn,hc⟩:=h;refine ⟨hl,a,cap,rfl,hn,fun hne=> ?_⟩;obtain ⟨b,off,rfl,hbl,hcell⟩:=hc hne;exact ⟨b,off,rfl,Nat.lt_of_lt_of_le hbl hb.size,fun j hj=>(hb.cell (p:=⟨b,off+j,none⟩) hbl).trans (hcell j hj)⟩
def RawInts (w:World) (v:Value) (xs:List Int):Prop:=
 xs.length<=9223372036854775807/\∃ (a:Option Addr) (cap:Nat),v = .slice a xs.length cap/\(a=none->cap=0) ∧
  (xs≠[]->∃ b off,a=some ⟨b,off,none⟩/\b<w.heap.size/\∀ j,j<xs.length->w.cell? ⟨b,off+j,none⟩=some (.int .i64 (xs.getD j 0)))
theorem RawInts.ints {w:World} {v:Value} {xs:List Int} (h:RawInts w v xs) (hl:xs.length<=140737488355328):z1E w v xs:=⟨hl,h.2⟩
theorem RawInts.below {w w':World} {v:Value} {xs:List Int} (h:RawInts w v xs) (hb:Below w.heap.size w w'):RawInts w' v xs:=by
 obtain ⟨hl,a,cap,rfl,hn,hc⟩:=h;refine ⟨hl,a,cap,rfl,hn,fun hne=> ?_⟩;obtain ⟨b,off,rfl,hbl,hcell⟩:=hc hne;exact ⟨b,off,rfl,Nat.lt_of_lt_of_le hbl hb.size,fun j hj=>(hb.cell (p:=⟨b,off+j,none⟩) hbl).trans (hcell j hj)⟩
theorem z1E.cases {w:World} {v:Value} {xs:List Int} (h:z1E w v xs) :
  (∃ a cap,xs=[]/\v = .slice a 0 cap) ∨
  (∃ b off cap,0<xs.length/\xs.length<=140737488355328/\v = .slice (some ⟨b,off,none⟩) xs.length cap/\b<w.heap.size/\∀ j,j<xs.length->w.cell? ⟨b,off+j,none⟩=some (.int .i64 (xs.getD j 0))):=by
 obtain ⟨hl,a,cap,rfl,_,hc⟩:=h;by_cases hx:xs=[]
 ·
  subst hx;exact .inl ⟨a,cap,rfl,rfl⟩
 ·
  obtain ⟨b,off,rfl,hbl,hcell⟩:=hc hx;exact .inr ⟨b,off,cap,List.length_pos_iff.2 hx,hl,rfl,hbl,hcell⟩
def z5P (k:IntKind) (w:World) (a:Option Addr) (len cap:Nat) (zs:List Int):Prop:=
 (a=none/\len=0/\cap=0/\zs=[]) ∨
 ∃ x,a=some x/\len<=cap/\cap<=maxLen/\zs.length=cap/\(∀ i,i<zs.length->w.cell? (x.add i)=some (.int k (zs.getD i 0)))/\∀ n∈zs,(Lit.int k n).wf=true
theorem v1S {w:World} {p:Addr} {u:Value} (h:w.cell? p=some u):p.block<w.heap.size:=by
 by_cases hp:p.block<w.heap.size
 ·
  exact hp
 ·
  simp [World.cell?,Array.getElem?_eq_none (Nat.le_of_not_lt hp)] at h
theorem z5P.below {k:IntKind} {w w':World} {a:Option Addr} {len cap:Nat} {zs:List Int} (h:z5P k w a len cap zs) (hb:Below w.heap.size w w'):z5P k w' a len cap zs:=by
 rcases h with h | ⟨x,rfl,hl,hm,hz,hcell,hwf⟩
 ·
  exact .inl h
 ·
  refine .inr ⟨x,rfl,hl,hm,hz,fun i hi=> ?_,hwf⟩;have hc:=hcell i hi;exact (hb.cell (v1S hc)).trans hc
def q3D (xs:List Int):Prop:=∀ x∈xs,-9223372036854775808<=x/\x<=9223372036854775807
theorem infoInt:(Tryz.prog.info? 3).map (fun i=>(i.zero,i.size,i.bytes))=some (some (.int .i64 0),1,8):=by kernel_rfl
theorem k4V {wr:World} {cap:Nat} {base g:Nat} {xs:List Int} (hlim:xs.length<=140737488355328)
  (hown:wr.ownsRow base 3 1 (.slice (some ⟨g,0,none⟩) xs.length cap) xs.length (xs.map (Value.int .i64))) :
  z1E wr (.slice (some ⟨g,0,none⟩) xs.length cap) xs:=by
 refine ⟨hlim,_,_,rfl,fun h=>by simp at h,fun _=>⟨_,_,rfl,(hown.lt g rfl).2,fun j hj=> ?_⟩⟩;have:=hown.cellAt j (by omega);rw [Nat.zero_add,this];simp [List.getD,hj]
theorem z1N {a b:Bool} (h:a=b):Ending.returned (.bool a) = .returned (.bool b):=by rw [h]
theorem j2D {a b:Int} (h:a=b):Ending.returned (.int .i64 a) = .returned (.int .i64 b):=by rw [h]
end Go.Proofs.YtmjaepdplbgohaaGreatDoor
namespace Go.Proofs.YtmjaepdplbgohaaGreatDoor
def q1W (n:Int):Bool:=decide (-1000000000<=n/\n<=1000000000)
def z1R (xs:List Int):Bool:=decide (1<=xs.length/\xs.length<=6)&&xs.all q1W
def txTail:List Int->List UInt8
 | []=>[]
 | x :: xs=>44 :: (Lib.itoa x++txTail xs)
def rowTx:List Int->List UInt8
 | []=>[]
 | x :: xs=>Lib.itoa x++txTail xs
theorem txTail_snoc:∀ (xs:List Int) (y:Int),txTail (xs++[y])=txTail xs++44 :: Lib.itoa y
 | [],y=>by simp [txTail]
 | x :: xs,y=>by simp [txTail,txTail_snoc xs y]
theorem x5K (xs:List Int) (y:Int) (h:xs≠[]):rowTx (xs++[y])=rowTx xs++44 :: Lib.itoa y:=by
 cases xs with
 | nil=>exact absurd rfl h
 | cons x xs=>simp [rowTx,txTail_snoc]
theorem q4S {xs:List Int} {k:Nat} (h:k<xs.length):xs.take (k+1)=xs.take k++[xs.getD k 0]:=by
 rw [List.take_succ_eq_append_getElem h]; simp [List.getD,h]
theorem v4Z {xs:List Int} (h:0<xs.length):rowTx (xs.take 1)=Lib.itoa (xs.getD 0 0):=by
 rw [q4S h]; simp [rowTx,txTail]
theorem x5L {xs:List Int} {k:Nat} (h:k<xs.length) (hk:0<k):rowTx (xs.take (k+1))=rowTx (xs.take k)++44 :: Lib.itoa (xs.getD k 0):=by
 rw [q4S h,x5K _ _ (fun e=>by
  have h1:(xs.take k).length=k:=by rw [List.length_take]; omega
  rw [e] at h1
  simp at h1
  omega)]
theorem txTail_le:∀ xs:List Int,q3D xs->(txTail xs).length<=22*xs.length
 | [],_=>by simp [txTail]
 | x :: xs,h=>by
  have h1:=Lib.itoa_length_le x (h x (by simp)).1 (h x (by simp)).2
  have h2:=txTail_le xs (fun y hy=>h y (by simp [hy]))
  simp [txTail]; omega
theorem q5D (xs:List Int) (h:q3D xs):(rowTx xs).length<=22*xs.length:=by
 cases xs with
 | nil=>simp [rowTx]
 | cons x xs=>
  have h1:=Lib.itoa_length_le x (h x (by simp)).1 (h x (by simp)).2;have h2:=txTail_le xs (fun y hy=>h y (by simp [hy]));simp [rowTx]; omega
theorem wf_take {xs:List Int} (h:q3D xs) (k:Nat):q3D (xs.take k):=fun x hx=>h x (List.mem_of_mem_take hx)
theorem wf_at {xs:List Int} (h:q3D xs) {k:Nat} (hk:k<xs.length) : -9223372036854775808<=xs.getD k 0/\xs.getD k 0<=9223372036854775807:=h _ (by simp [List.getD,hk])
end Go.Proofs.YtmjaepdplbgohaaGreatDoor
namespace Go.Proofs.YtmjaepdplbgohaaGreatDoor
open Go.RowKit
def v2Q (xs ys:List Int):Bool:=decide (xs=ys)
theorem sameB_of (xs ys:List Int) (hl:xs.length=ys.length) (h:∀ j,j<xs.length->xs.getD j 0=ys.getD j 0):v2Q xs ys=true:=by
 unfold v2Q;rw [decide_eq_true_iff];apply List.ext_getElem hl;intro j h1 h2;have:=h j h1;simpa [List.getD,h1,h2] using this
theorem z6A (xs ys:List Int) (hl:xs.length≠ys.length):v2Q xs ys=false:=by
 unfold v2Q;rw [decide_eq_false_iff_not];intro h; exact hl (by rw [h])
theorem sameB_at (xs ys:List Int) (j:Nat) (h:xs.getD j 0≠ys.getD j 0):v2Q xs ys=false:=by
 unfold v2Q;rw [decide_eq_false_iff_not];intro e; exact h (by rw [e])
theorem z3G (xs:List Int):v2Q xs xs=true:=by simp [v2Q]
def z2U (n wide:Int):Bool:=decide (0<=n/\n<wide/\n<6)
structure Cel where
 k:Int
 a:Int
 b:Int
 n:Int
def Cel.okB (c:Cel) (wide:Int):Bool:=
 decide ((c.k=1/\(0<=c.a/\c.a<wide/\c.a<6)/\c.b=0/\c.n=0)\/(c.k=2/\c.a=0/\c.b=0/\-1000000000<=c.n/\c.n<=1000000000) ∨
  (c.k=3/\(0<=c.a/\c.a<wide/\c.a<6)/\(0<=c.b/\c.b<wide/\c.b<6)/\c.n=0))
def Cel.num (c:Cel) (r:List Int):Int:=if c.k=1 then r.getD c.a.toNat 0 else if c.k=2 then c.n else r.getD c.a.toNat 0+r.getD c.b.toNat 0
def Cel.toldB (c:Cel) (r:List Int):Bool:=z1R r&&c.okB r.length&&q1W (c.num r)
def Cel.valI (c:Cel) (r:List Int):Int:=if c.toldB r then c.num r else 0
structure Tst where
 k:Int
 no:Bool
 l:Cel
 r:Cel
def Tst.okB (t:Tst) (wide:Int):Bool:=decide (t.k=1\/t.k=2)&&t.l.okB wide&&t.r.okB wide
def Tst.toldB (t:Tst) (r:List Int):Bool:=decide (t.k=1\/t.k=2)&&t.l.toldB r&&t.r.toldB r
def Tst.holdsB (t:Tst) (r:List Int):Bool:=(if t.k=1 then decide (t.l.num r<t.r.num r) else decide (t.l.num r=t.r.num r)) != t.no
def Tst.valB (t:Tst) (r:List Int):Bool:=t.toldB r&&t.holdsB r
theorem q2X {n:Int}:q1W n=true<->-1000000000<=n/\n<=1000000000:=by simp [q1W]
theorem x2S {r:List Int} (h:z1R r=true) {j:Nat} (hj:j<r.length) : -1000000000<=r.getD j 0/\r.getD j 0<=1000000000:=by
 simp only [z1R,Bool.and_eq_true,List.all_eq_true] at h;have:=h.2 r[j] (List.getElem_mem hj);rw [q2X] at this;simpa [List.getD,hj] using this
def Cel.eqB (c d:Cel):Bool:=c.k==d.k&&(c.a==d.a&&(c.b==d.b&&c.n==d.n))
def Tst.eqB (t u:Tst):Bool:=t.k==u.k&&(t.no==u.no&&(t.l.eqB u.l&&t.r.eqB u.r))
theorem Cel.eqB_iff {c d:Cel}:c.eqB d=true<->c=d:=by
 obtain ⟨k,a,b,n⟩:=c;obtain ⟨k',a',b',n'⟩:=d;simp [Cel.eqB]
theorem Tst.eqB_iff {t u:Tst}:t.eqB u=true<->t=u:=by
 obtain ⟨k,no,l,r⟩:=t;obtain ⟨k',no',l',r'⟩:=u;simp [Tst.eqB,Cel.eqB_iff]
theorem x6A (d:Nat) (c e:Cel) (w:World) :
  (Op.equalIn (d+2) 24 (.agg #[.int .i64 c.k,.int .i64 c.a,.int .i64 c.b,.int .i64 c.n]) (.agg #[.int .i64 e.k,.int .i64 e.a,.int .i64 e.b,.int .i64 e.n])).run Tryz.prog w = .ok (c.eqB e) w:=by
 have hs:Tryz.prog.stoodInHeld 24=false:=by kernel_rfl
 rw [run_equalIn_agg (P:=Tryz.prog) w _ _ _ _ (by kernel_rfl) hs];simp only [Program.fieldsOf,Tryz.underlying24];unfold Cel.eqB;by_cases h1:c.k=e.k <;> by_cases h2:c.a=e.a <;> by_cases h3:c.b=e.b <;> by_cases h4:c.n=e.n <;> simp [go_sem,h1,h2,h3,h4,Tryz.underlying3]
theorem z2X (t u:Tst) (w:World) :
  (binOp .eql 26 (.agg #[.int .i64 t.k,.bool t.no,.int .i64 t.l.k,.int .i64 t.l.a,.int .i64 t.l.b,.int .i64 t.l.n,.int .i64 t.r.k,.int .i64 t.r.a,.int .i64 t.r.b,.int .i64 t.r.n]) (.agg #[.int .i64 u.k,.bool u.no,.int .i64 u.l.k,.int .i64 u.l.a,.int .i64 u.l.b,.int .i64 u.l.n,.int .i64 u.r.k,.int .i64 u.r.a,.int .i64 u.r.b,.int .i64 u.r.n])).run Tryz.prog w = .ok (.bool (t.eqB u)) w:=by
 have hs:Tryz.prog.stoodInHeld 26=false:=by kernel_rfl
 have hl:=fun w=>x6A 9997 t.l u.l w;have hr:=fun w=>x6A 9997 t.r u.r w;rw [run_eql_struct,run_equalIn_agg (P:=Tryz.prog) w _ _ _ _ (by kernel_rfl) hs];simp only [Program.fieldsOf,Tryz.underlying26];unfold Tst.eqB;by_cases h1:t.k=u.k <;> by_cases h2:t.no=u.no <;> cases h3:t.l.eqB u.l <;> cases h4:t.r.eqB u.r <;> simp [go_sem,h1,h2,h3,h4,hl,hr,Tryz.underlying3,Tryz.underlying4]
structure Nd where
 k:Int
 n:Int
 t:Tst
 cs:List Cel
 a:Int
 b:Int
 ks:List Int
 g:Int
 c:Int
def Pl:Nat->Type
 | 0=>Empty
 | n+1=>Nd × List (Pl n)
def Pl.nd {n:Nat} (p:Pl (n+1)):Nd:=Prod.fst (α:=Nd) (β:=List (Pl n)) p
def Pl.kids {n:Nat} (p:Pl (n+1)):List (Pl n):=Prod.snd (α:=Nd) (β:=List (Pl n)) p
def Pl.mk {n:Nat} (d:Nd) (l:List (Pl n)):Pl (n+1):=Prod.mk d l
theorem Pl.nd_mk {n:Nat} (d:Nd) (l:List (Pl n)):(Pl.mk d l).nd=d:=rfl
theorem Pl.kids_mk {n:Nat} (d:Nd) (l:List (Pl n)):(Pl.mk d l).kids=l:=rfl
def all2 {α:Type} (f:α->α->Bool):List α->List α->Bool
 | [],[]=>true
 | x :: xs,y :: ys=>f x y&&all2 f xs ys
 | _,_=>false
theorem q4M {α:Type} {f:α->α->Bool} (h:∀ x y,f x y=true<->x=y):∀ xs ys:List α,all2 f xs ys=true<->xs=ys
 | [],[]=>by simp [all2]
 | [],_ :: _=>by simp [all2]
 | _ :: _,[]=>by simp [all2]
 | x :: xs,y :: ys=>by simp [all2,h,q4M h xs ys]
def Pl.sz:(n:Nat)->Pl n->Nat
 | 0,_=>0
 | n+1,p=>p.nd.cs.length+p.nd.ks.length+(p.kids.length+(p.kids.map (Pl.sz n)).sum)
theorem Pl.sz_succ {n:Nat} (p:Pl (n+1)):Pl.sz (n+1) p=p.nd.cs.length+p.nd.ks.length+(p.kids.length+(p.kids.map (Pl.sz n)).sum):=rfl
def k1X (n:Nat) (l:List (Pl n)):Nat:=(l.map (Pl.sz n)).sum
theorem k4O {n:Nat} {l:List (Pl n)} {k:Nat} (hk:k<l.length):k1X n (l.take (k+1))=k1X n (l.take k)+Pl.sz n l[k]:=by
 unfold k1X;rw [List.take_succ_eq_append_getElem hk,List.map_append,List.sum_append];simp only [List.map_cons,List.map_nil,List.sum_cons,List.sum_nil,Nat.add_zero]
theorem q6V {n:Nat} (l:List (Pl n)) (k:Nat):k1X n (l.take k)<=k1X n l:=by
 unfold k1X;conv=>rhs; rw [<-List.take_append_drop k l,List.map_append,List.sum_append]
 omega
theorem k1B {n:Nat} {l:List (Pl n)} {k:Nat} (hk:k<l.length):Pl.sz n l[k]<=k1X n l:=by
 have h1:=k4O hk;have h2:=q6V l (k+1);omega
def Nd.eqB (x y:Nd):Bool:=
 x.k==y.k&&x.n==y.n&&x.t.eqB y.t&&all2 Cel.eqB x.cs y.cs&&x.a==y.a&&x.b==y.b&&x.ks==y.ks&&x.g==y.g&&x.c==y.c
theorem Nd.eqB_iff {x y:Nd}:x.eqB y=true<->x=y:=by
 obtain ⟨k,n,t,cs,a,b,ks,g,c⟩:=x;obtain ⟨k',n',t',cs',a',b',ks',g',c'⟩:=y;simp only [Nd.eqB,Bool.and_eq_true,beq_iff_eq,Tst.eqB_iff,q4M (fun _ _=>Cel.eqB_iff),Nd.mk.injEq,and_assoc]
end Go.Proofs.YtmjaepdplbgohaaGreatDoor
namespace Go.Proofs.YtmjaepdplbgohaaGreatDoor
abbrev t10 (t:Tst):List Value:=[.int .i64 t.k,.bool t.no,.int .i64 t.l.k,.int .i64 t.l.a,.int .i64 t.l.b,.int .i64 t.l.n,.int .i64 t.r.k,.int .i64 t.r.a,.int .i64 t.r.b,.int .i64 t.r.n]
abbrev g19 (k n:Int) (t:Tst) (vc:Value) (a b:Int) (vk:Value) (g c:Int) (vd:Value):List Value:=[.int .i64 k,.int .i64 n,.int .i64 t.k,.bool t.no,.int .i64 t.l.k,.int .i64 t.l.a,.int .i64 t.l.b,.int .i64 t.l.n,.int .i64 t.r.k,.int .i64 t.r.a,.int .i64 t.r.b,.int .i64 t.r.n,vc,.int .i64 a,.int .i64 b,vk,.int .i64 g,.int .i64 c,vd]
abbrev h19 (k n:Int) (vc:Value) (a b:Int) (vk:Value) (g c:Int) (vd:Value):List Value:=[.int .i64 k,.int .i64 n,.int .i64 0,.bool false,.int .i64 0,.int .i64 0,.int .i64 0,.int .i64 0,.int .i64 0,.int .i64 0,.int .i64 0,.int .i64 0,vc,.int .i64 a,.int .i64 b,vk,.int .i64 g,.int .i64 c,vd]
abbrev o19:List Value:=[.int .i64 0,.int .i64 0,.int .i64 0,.bool false,.int .i64 0,.int .i64 0,.int .i64 0,.int .i64 0,.int .i64 0,.int .i64 0,.int .i64 0,.int .i64 0,.slice none 0 0,.int .i64 0,.int .i64 0,.slice none 0 0,.int .i64 0,.int .i64 0,.slice none 0 0]
abbrev z1J (d:Nd) (vc vk vd:Value):List Value:=[.int .i64 d.k,.int .i64 d.n,.int .i64 d.t.k,.bool d.t.no,.int .i64 d.t.l.k,.int .i64 d.t.l.a,.int .i64 d.t.l.b,.int .i64 d.t.l.n,.int .i64 d.t.r.k,.int .i64 d.t.r.a,.int .i64 d.t.r.b,.int .i64 d.t.r.n,vc,.int .i64 d.a,.int .i64 d.b,vk,.int .i64 d.g,.int .i64 d.c,vd]
abbrev p19 {n:Nat} (p:Pl (n+1)) (ca:Option Addr) (cc:Nat) (ka:Option Addr) (kc:Nat) (da:Option Addr) (dc:Nat):List Value:=z1J p.nd (.slice ca p.nd.cs.length cc) (.slice ka p.nd.ks.length kc) (.slice da p.kids.length dc)
end Go.Proofs.YtmjaepdplbgohaaGreatDoor
namespace Go.Proofs.YtmjaepdplbgohaaGreatDoor
variable {P : Program} {ops : Array Oper} {Q : Exit → Act → World → Prop} {md : Region.Mode} {S : World → Prop} {oi : Oper} {v : Value} {fuel : Nat} {listed : Array Bool} {a : Act} {w : World}
theorem tk (i:Nat) (h:wpAnyH P md ops Q S fuel (listed.setIfInBounds i true) (a.put oi.dst v) w) (hi:ops[i]? = some oi:=by exact rfl) (hs:Region.noSelect ops=true:=by kernel_rfl) (hf:Region.free md ops listed i=true:=by kernel_rfl) (hr:(Region.ready md ops listed).contains i=true:=by kernel_rfl)
  (hQ:∀ c a w,Q (.panic c) (a.put oi.dst v) w->Q (.panic c) a w:=by exact fun _ _ _ h=>h) (hw:Region.wanted oi (yielded ops a.tmps)=true:=by rfl) (hy:∀ w,S w->(execOp a.eval oi).run P w = .ok (.value v) w:=by intro w hSw; (try dsimp only at hSw); go_simp; try with_reducible rfl) (hS:S w:=by assumption) :
  wpAnyH P md ops Q S (fuel+1) listed a w:=wpAnyH_take hi hs hf hr hQ (Or.inl ⟨hw,hy⟩) hS h
theorem tu (i:Nat) (h:wpAnyH P md ops Q S fuel (listed.setIfInBounds i true) (a.put oi.dst undef) w) (hi:ops[i]? = some oi:=by exact rfl) (hs:Region.noSelect ops=true:=by kernel_rfl) (hf:Region.free md ops listed i=true:=by kernel_rfl) (hr:(Region.ready md ops listed).contains i=true:=by kernel_rfl)
  (hQ:∀ c a w,Q (.panic c) (a.put oi.dst undef) w->Q (.panic c) a w:=by exact fun _ _ _ h=>h) (hw:Region.wanted oi (yielded ops a.tmps)=false:=by rfl) (hS:S w:=by assumption) :
  wpAnyH P md ops Q S (fuel+1) listed a w:=wpAnyH_take hi hs hf hr hQ (Or.inr ⟨hw,rfl⟩) hS h
theorem tl (i:Nat) (hi:ops[i]? = some oi) (hy:YieldsIf P ops S oi v a) (h:wpAnyH P md ops Q S fuel (listed.setIfInBounds i true) (a.put oi.dst v) w) (hs:Region.noSelect ops=true:=by kernel_rfl) (hf:Region.free md ops listed i=true:=by kernel_rfl) (hr:(Region.ready md ops listed).contains i=true:=by kernel_rfl)
  (hQ:∀ c a w,Q (.panic c) (a.put oi.dst v) w->Q (.panic c) a w:=by exact fun _ _ _ h=>h) (hS:S w:=by assumption) :
  wpAnyH P md ops Q S (fuel+1) listed a w:=wpAnyH_take hi hs hf hr hQ hy hS h
theorem r1 (i:Nat) (h:∀ K':Act->World->Prop,Shut (∀ a w,S w->(S w->wpAnyH P md ops Q S fuel (listed.setIfInBounds i true) a w)->K' a w)->if Region.wanted oi (yielded ops a.tmps)=true then Oper.wp P oi a w K' Q else K' (a.put oi.dst undef) w) (hi:ops[i]? = some oi:=by exact rfl) (hr:Region.ready md ops listed=[i]:=by kernel_rfl) :
  wpAnyH P md ops Q S (fuel+1) listed a w:=wpAnyH_ready hr (by simp) (AllReadyH.cons hi h AllReadyH.nil)
theorem dn (h:Q .normal a w) (hr:Region.ready md ops listed=[]:=by kernel_rfl):wpAnyH P md ops Q S fuel listed a w:=wpAnyH_done hr h fuel
theorem a1 {α:Type} {xs:List α} {i:Nat} (h:i<xs.toArray.size):xs.toArray[i]=xs[i]'(by simpa using h):=List.getElem_toArray h
theorem a2 {α:Type} {x:α} {xs:List α} {i:Nat} (h:i+1<(x :: xs).length):(x :: xs)[i+1]=xs[i]'(Nat.lt_of_succ_lt_succ h):=rfl
theorem a3 {α:Type} {x:α} {xs:List α} (h:0<(x :: xs).length):(x :: xs)[0]=x:=rfl
theorem a4 {α:Type} {xs:List α} {i:Nat} {x:α}:xs.toArray.setIfInBounds i x=(xs.set i x).toArray:=List.setIfInBounds_toArray ..
theorem a5 {α:Type} {x y:α} {xs:List α}:(x :: xs).set 0 y=y :: xs:=rfl
theorem a6 {α:Type} {x y:α} {xs:List α} {i:Nat}:(x :: xs).set (i+1) y=x :: xs.set i y:=rfl
theorem ap:(∀ (a:Act) (d:Tmp) (v:Value),a.put (some d) v = { a with tmps:=a.tmps.setIfInBounds d v })/\(∀ (a:Act) (v:Value),a.put none v=a)/\(∀ (α:Type) (xs:List α) (i:Nat) (h:i<xs.toArray.size),xs.toArray[i]=xs[i]'(by simpa using h))/\(∀ (α:Type) (x:α) (xs:List α) (i:Nat) (h:i+1<(x :: xs).length),(x :: xs)[i+1]=xs[i]'(Nat.lt_of_succ_lt_succ h))/\(∀ (α:Type) (x:α) (xs:List α) (h:0<(x :: xs).length),(x :: xs)[0]=x)/\(∀ (α:Type) (xs:List α) (i:Nat) (x:α),xs.toArray.setIfInBounds i x=(xs.set i x).toArray)/\(∀ (α:Type) (x y:α) (xs:List α),(x :: xs).set 0 y=y :: xs)/\∀ (α:Type) (x y:α) (xs:List α) (i:Nat),(x :: xs).set (i+1) y=x :: xs.set i y:=
 ⟨fun _ _ _=>rfl,fun _ _=>rfl,fun _ _ _ h=>List.getElem_toArray h,fun _ _ _ _ _=>rfl,fun _ _ _ _=>rfl,fun _ _ _ _=>List.setIfInBounds_toArray ..,fun _ _ _ _=>rfl,fun _ _ _ _ _=>rfl⟩
end Go.Proofs.YtmjaepdplbgohaaGreatDoor
namespace Go.Proofs.YtmjaepdplbgohaaGreatDoor
open Go.RowKit
def Own (w:World) (lo hi:Nat) (v:Value) (xs:List Int):Prop:=
 w.ownsRow lo 3 1 v xs.length (xs.map (Value.int .i64))/\(∀ k,v.ownBlock=some k->k<hi)/\xs.length<=140737488355328/\hi<=w.heap.size
theorem x1Y {w:World} {lo n:Nat} {v:Value} {xs:List Int} (h:w.ownsRow lo 3 1 v n (xs.map (Value.int .i64))) (hl:xs.length<=140737488355328):Own w lo w.heap.size v xs:=by
 have hn:n=xs.length:=by simpa using h.1.symm
 subst hn;exact ⟨h,fun k hk=>(h.lt k hk).2,hl,Nat.le_refl _⟩
theorem Own.wide {w:World} {lo hi lo' hi':Nat} {v:Value} {xs:List Int} (h:Own w lo hi v xs) (h1:lo'<=lo) (h2:hi<=hi') (h3:hi'<=w.heap.size):Own w lo' hi' v xs:=by
 obtain ⟨⟨a,b⟩,hhi,hl,hs⟩:=h;refine ⟨⟨a,?_⟩,fun k hk=>Nat.lt_of_lt_of_le (hhi k hk) h2,hl,h3⟩;rcases b with b | ⟨g,cap,cur,hv,hg,r⟩
 ·
  exact .inl b
 ·
  exact .inr ⟨g,cap,cur,hv,Nat.le_trans h1 hg,r⟩
theorem Own.shape {w:World} {lo hi:Nat} {v:Value} {xs:List Int} (h:Own w lo hi v xs) (hne:0<xs.length):∃ g cap,v = .slice (some ⟨g,0,none⟩) xs.length cap/\lo<=g/\g<hi/\xs.length<=cap/\cap<=maxLen:=by
 obtain ⟨⟨_,b⟩,hhi,_,_⟩:=h;rcases b with ⟨_,hn⟩ | ⟨g,cap,cur,hv,hg,_,hc,hm,_⟩
 ·
  omega
 ·
  exact ⟨g,cap,hv,hg,hhi g (by rw [hv]; rfl),hc,hm⟩
theorem v1K (w:World) (xs:List Int) (hl:xs.length<=140737488355328):Own (w.alloc (.cells (xs.map (Value.int .i64)).toArray 3)) w.heap.size (w.heap.size+1) (.slice (some ⟨w.heap.size,0,none⟩) xs.length xs.length) xs:=by
 have h:=World.ownsRow_lit (base:=w.heap.size) (e:=3) (size:=1) w (xs.map (Value.int .i64)).toArray xs.length (Nat.le_refl _) (by unfold maxLen; omega) (by simp);refine ⟨by simpa using h,?_,hl,by simp⟩;intro k hk;simp [Value.ownBlock] at hk;omega
theorem Own.ints {w:World} {lo hi:Nat} {v:Value} {xs:List Int} (h:Own w lo hi v xs):z1E w v xs:=by
 obtain ⟨ho,_,hl,_⟩:=h;rcases ho.2 with ⟨rfl,hn⟩ | ⟨g,cap,cur,rfl,_⟩
 ·
  have:xs=[]:=List.length_eq_zero_iff.1 hn;subst this;exact ⟨by simp,none,0,rfl,fun _=>rfl,fun h=>absurd rfl h⟩
 ·
  exact k4V hl ho
theorem Own.keep {w w':World} {lo hi:Nat} {v:Value} {xs:List Int} (h:Own w lo hi v xs) (hb:Below hi w w'):Own w' lo hi v xs:=by
 obtain ⟨⟨h1,h2⟩,hhi,hl,hs⟩:=h;refine ⟨⟨h1,?_⟩,hhi,hl,Nat.le_trans hs hb.size⟩;rcases h2 with h2 | ⟨g,cap,cur,hv,hg,hh,r⟩
 ·
  exact .inl h2
 ·
  exact .inr ⟨g,cap,cur,hv,hg,(hb.block g (hhi g (by rw [hv]; rfl))).trans hh,r⟩
theorem Own.keep' {w w':World} {lo hi:Nat} {v:Value} {xs:List Int} (h:Own w lo hi v xs) (hb:Below w.heap.size w w'):Own w' lo hi v xs:=h.keep (hb.mono h.2.2.2)
theorem Own.kept {w w':World} {lo hi:Nat} {v:Value} {xs:List Int} (h:Own w lo hi v xs) {row:Option Nat} (hg:w.grownBy w' row) (hne:∀ k,row=some k->k<lo\/hi<=k):Own w' lo hi v xs:=by
 obtain ⟨ho,hhi,hl,hs⟩:=h;refine ⟨ho.kept hg ?_,hhi,hl,Nat.le_trans hs hg.size⟩;cases hv:v.ownBlock with
 | none=>exact .inl rfl
 | some k=>
  refine .inr fun e=> ?_;have h1:=(ho.lt k hv).1;have h2:=hhi k hv;rcases hne k e.symm with h | h <;> omega
theorem z1G {a b c:World} {row:Option Nat} (h:a.grownBy b row) (k:b.grownBy c row):a.grownBy c row:=
 ⟨k.os.trans h.os,k.tape.trans h.tape,k.output.trans h.output,Nat.le_trans h.size k.size,fun i hi hne=>(k.block i (Nat.lt_of_lt_of_le hi h.size) hne).trans (h.block i hi hne)⟩
theorem v1U (a:World) (row:Option Nat):a.grownBy a row:=⟨rfl,rfl,rfl,Nat.le_refl _,fun _ _ _=>rfl⟩
theorem x1T {w a b:World} {g row:Option Nat} (h:w.grownBy a g) (k:a.grownBy b row) (hr:∀ i,row=some i->w.heap.size<=i):w.grownBy b g:=
 ⟨k.os.trans h.os,k.tape.trans h.tape,k.output.trans h.output,Nat.le_trans h.size k.size,fun i hi hne=>(k.block i (Nat.lt_of_lt_of_le hi h.size) (fun e=>by have:=hr i e.symm; omega)).trans (h.block i hi hne)⟩
theorem x1F {w a:World} {g:Option Nat} (h:w.grownBy a g) (o:Obj):w.grownBy (a.alloc o) g:=z1G h (World.grownBy_alloc a o g)
theorem v2U {w a b:World} {g:Option Nat} (h:w.grownBy a g) (k:Below a.heap.size a b):w.grownBy b g:=
 ⟨k.os.trans h.os,k.tape.trans h.tape,k.output.trans h.output,Nat.le_trans h.size k.size,fun i hi hne=>(k.block i (Nat.lt_of_lt_of_le hi h.size)).trans (h.block i hi hne)⟩
theorem oneCells (xs:List Int):∀ u∈xs.map (Value.int .i64),u.oneCell'=true:=ints_oneCell .i64 xs
theorem z1Q {P:Program} {w:World} {ops:Array Oper} {rest:List Oper} {o:Oper} {a:Act} {Q:Exit->Act->World->Prop} (hgd:o.guard=none) (s x:Operand) (t:TypeId)
  (ho:o.op = .call { callee:=.builtin .append,args:=#[s,x],argTypes:=#[t,t] })
  (base:Nat) (e:TypeId) (i:TypeInfo) (ht:P.underlying t=some (.slice e)) (hi:P.info? e=some i) (hz:i.zero=some (.int .i64 0))
  (hsize:i.size=1) (hby:i.bytes=8)
  (v:Value) (n:Nat) (xs:List Value) (hs:a.eval s=v) (hown:w.ownsRow base e 1 v n xs)
  (vx:Value) (src:List Int) (hx:a.eval x=vx) (hsrc:z1E w vx src)
  (hbytes:(n+src.length)*8<=140737488355328) (hbase:base<=w.heap.size)
  (h:∀ v' w',w'.ownsRow base e 1 v' (n+src.length) (xs++src.map (Value.int .i64))->w.grownBy w' v.ownBlock->(v≠.slice none 0 0->v'≠.slice none 0 0)->wpList P ops Q rest (a.put o.dst v') w'):wpList P ops Q (o :: rest) a w:=by
 obtain ⟨hl,ad,cap,rfl,hnone,hc⟩:=hsrc;cases ad with
 | none=>
  have hsrc:src=[]:=by
   by_cases h0:src=[]
   ·
    exact h0
   ·
    obtain ⟨b,off,hh,_⟩:=hc h0;simp at hh
  subst hsrc;have hcap:=hnone rfl;subst hcap;refine wpList_append_own_none hgd s x t ho base e i 1 ht hi v n xs hs hown hx ?_;refine h v w (by simpa using hown) (v1U _ _) (fun h=>h)
 | some ad=>
  have hnews:∀ j u,(src.map (Value.int .i64))[j]? = some u->w.cell? (ad.add j)=some u:=by
   intro j u hu;by_cases h0:src=[]
   ·
    subst h0; simp at hu
   ·
    obtain ⟨b,off,hh,_,hcell⟩:=hc h0;simp at hh;subst hh;have hj:j<src.length:=by
     have:=(List.getElem?_eq_some_iff.1 hu).1;simpa using this
    rw [Addr.add_lit,hcell j hj];rw [<-hu];simp [List.getD,hj]
  refine wpList_append_own w hgd s x t ho base e i (.int .i64 0) 1 8 ht hi hz hsize hby rfl (by decide) v n xs hs hown ad src.length cap (src.map (Value.int .i64)) hx (by simp) hnews (oneCells src) (by unfold maxLen; omega) hbytes hbase ?_;intro v' w' h1 h2 h3;exact h v' w' h1 h2 (fun hv hv'=>hv (h3.1 hv').1)
end Go.Proofs.YtmjaepdplbgohaaGreatDoor
