/- Part of the proof of laws.FnMean: KindAny, RoundMem, RangeAt, Round, FormMath, ManyAny. -/
import Derived.Test.YtmjaepdplbgohaaGreatDoorPkA
import Derived.Test.YtmjaepdplbgohaaGreatDoorPkE
import Derived.Test.YtmjaepdplbgohaaGreatDoorPkH
import Derived.Shelf.Abstract
import Derived.RangeFuncLeaves
set_option maxRecDepth 100000
set_option maxHeartbeats 16000000
set_option linter.unusedVariables false
set_option linter.unusedSimpArgs false
namespace Go.Proofs.YtmjaepdplbgohaaGreatDoor.Kd
open Go.RowKit Go.Shelf
def Sixes (w:World) (v:Value):Nat->Prop
 | 0=>True
 | 1=> ∃ g,v = .slice (some ⟨g,0,none⟩) 1 1/\g<w.heap.size/\w.cell? ⟨g,0,none⟩=some (.int .i64 6)
 | 2=> ∃ g,v = .slice (some ⟨g,0,none⟩) 2 2/\g<w.heap.size/\w.cell? ⟨g,0,none⟩=some (.int .i64 6)/\w.cell? ⟨g,1,none⟩=some (.int .i64 6)
 | _+3=>False
theorem z6F (k:Nat) (hk:k<=2) (b:Nat) (t:TypeId) (w:World) (hb:w.heap[b]? = some (.cells #[.int .i64 6] t)):Calls Tryz.prog 91 #[.slice (some ⟨b,0,none⟩) 1 1,.int .i64 k] w fun e w'=> ∃ v,e = .returned v/\Sixes w' v k/\Below w.heap.size w w':=by
 match k,hk with
 | 0,_=>exact (rep_0 b t w).mono fun e w' ⟨v,h,hb⟩=>⟨v,h,trivial,hb⟩
 | 1,_=>exact (rep_1 b t w hb).mono fun e w' ⟨g,h,h1,h2,hb⟩=>⟨_,h,⟨g,rfl,h1,h2⟩,hb⟩
 | 2,_=>exact (rep_2 b t w hb).mono fun e w' ⟨g,h,h1,h2,h3,hb⟩=>⟨_,h,⟨g,rfl,h1,h2,h3⟩,hb⟩
theorem mKids1 (v0:Value) (w:World):(Go.method 381 139 (.agg #[v0]) "loop.example/milldam/impl.kids").run Tryz.prog w = .ok (200,.agg #[]) w:=by kernel_rfl
theorem mFits1 (v:Value) (w:World):(Go.method 381 139 v "loop.example/milldam/impl.fits").run Tryz.prog w = .ok (201,v) w:=by kernel_rfl
theorem nFits1 (v:Value) (w:World):(nilAhead 381 139 v "loop.example/milldam/impl.fits").run Tryz.prog w = .ok (some false) w:=by kernel_rfl
theorem mKids2 (v0 v1 v2 v3 v4 v5 v6 v7 v8 v9:Value) (w:World):(Go.method 381 142 (.agg #[v0,v1,v2,v3,v4,v5,v6,v7,v8,v9]) "loop.example/milldam/impl.kids").run Tryz.prog w = .ok (205,.agg #[]) w:=by kernel_rfl
theorem mFits2 (v:Value) (w:World):(Go.method 381 142 v "loop.example/milldam/impl.fits").run Tryz.prog w = .ok (206,v) w:=by kernel_rfl
theorem nFits2 (v:Value) (w:World):(nilAhead 381 142 v "loop.example/milldam/impl.fits").run Tryz.prog w = .ok (some false) w:=by kernel_rfl
theorem mKids3 (v0:Value) (w:World):(Go.method 381 144 (.agg #[v0]) "loop.example/milldam/impl.kids").run Tryz.prog w = .ok (205,.agg #[]) w:=by kernel_rfl
theorem mFits3 (v:Value) (w:World):(Go.method 381 144 v "loop.example/milldam/impl.fits").run Tryz.prog w = .ok (212,v) w:=by kernel_rfl
theorem nFits3 (v:Value) (w:World):(nilAhead 381 144 v "loop.example/milldam/impl.fits").run Tryz.prog w = .ok (some false) w:=by kernel_rfl
theorem mKids4 (v0 v1:Value) (w:World):(Go.method 381 147 (.agg #[v0,v1]) "loop.example/milldam/impl.kids").run Tryz.prog w = .ok (216,.agg #[]) w:=by kernel_rfl
theorem mFits4 (v:Value) (w:World):(Go.method 381 147 v "loop.example/milldam/impl.fits").run Tryz.prog w = .ok (217,v) w:=by kernel_rfl
theorem nFits4 (v:Value) (w:World):(nilAhead 381 147 v "loop.example/milldam/impl.fits").run Tryz.prog w = .ok (some false) w:=by kernel_rfl
theorem mKids5 (w:World):(Go.method 381 149 (.agg #[]) "loop.example/milldam/impl.kids").run Tryz.prog w = .ok (216,.agg #[]) w:=by kernel_rfl
theorem mFits5 (v:Value) (w:World):(Go.method 381 149 v "loop.example/milldam/impl.fits").run Tryz.prog w = .ok (221,v) w:=by kernel_rfl
theorem nFits5 (v:Value) (w:World):(nilAhead 381 149 v "loop.example/milldam/impl.fits").run Tryz.prog w = .ok (some false) w:=by kernel_rfl
theorem mKids6 (w:World):(Go.method 381 151 (.agg #[]) "loop.example/milldam/impl.kids").run Tryz.prog w = .ok (205,.agg #[]) w:=by kernel_rfl
theorem mFits6 (v:Value) (w:World):(Go.method 381 151 v "loop.example/milldam/impl.fits").run Tryz.prog w = .ok (225,v) w:=by kernel_rfl
theorem nFits6 (v:Value) (w:World):(nilAhead 381 151 v "loop.example/milldam/impl.fits").run Tryz.prog w = .ok (some false) w:=by kernel_rfl
theorem mKids7 (v0 v1 v2:Value) (w:World):(Go.method 381 153 (.agg #[v0,v1,v2]) "loop.example/milldam/impl.kids").run Tryz.prog w = .ok (205,.agg #[]) w:=by kernel_rfl
theorem mFits7 (v:Value) (w:World):(Go.method 381 153 v "loop.example/milldam/impl.fits").run Tryz.prog w = .ok (229,v) w:=by kernel_rfl
theorem nFits7 (v:Value) (w:World):(nilAhead 381 153 v "loop.example/milldam/impl.fits").run Tryz.prog w = .ok (some false) w:=by kernel_rfl
def IsKind (w:World) (T:TypeId) (x:Value) (k:Nat) (fit:Bool):Prop:=k<=2/\∃ (fk:Nat) (xk:Value) (ff:Nat),
 (∀ w,(Go.method 381 T x "loop.example/milldam/impl.kids").run Tryz.prog w = .ok (fk,xk) w)/\(∀ args w,(callFunc fk args).run Tryz.prog w = .ok (.enter fk args) w)/\(∀ w,Calls Tryz.prog fk #[xk] w fun e w'=>e = .returned (.int .i64 k)/\Below w.heap.size w w') ∧
 (∀ w,(Go.method 381 T x "loop.example/milldam/impl.fits").run Tryz.prog w = .ok (ff,x) w)/\(∀ args w,(callFunc ff args).run Tryz.prog w = .ok (.enter ff args) w)/\(∀ w,(nilAhead 381 T x "loop.example/milldam/impl.fits").run Tryz.prog w = .ok (some false) w) ∧
 ∀ w',Below w.heap.size w w'->∀ v,Sixes w' v k->Calls Tryz.prog ff #[x,v] w' fun e w''=>e = .returned (.bool fit)/\Below w'.heap.size w' w''
def z3C (w:World) (okT:Tst->Bool) (okC:Cel->Bool) (okK:List Int->Bool):Prop:=
 (∀ (t:Tst) (w':World),Below w.heap.size w w'->Calls Tryz.prog 210 #[.agg (t10 t).toArray,.int .i64 6] w' fun e w''=>e = .returned (.bool (okT t))/\Below w'.heap.size w' w'') ∧
 (∀ (c:Cel) (w':World),Below w.heap.size w w'->Calls Tryz.prog 211 #[.agg #[.int .i64 c.k,.int .i64 c.a,.int .i64 c.b,.int .i64 c.n],.int .i64 6] w' fun e w''=>e = .returned (.bool (okC c))/\Below w'.heap.size w' w'') ∧
 ∀ (ks:List Int) (v:Value) (w':World),Below w.heap.size w w'->RawInts w' v ks->ks.length<=140737488355328->Calls Tryz.prog 36 #[v,.int .i64 6] w' fun e w''=>e = .returned (.bool (okK ks))/\Below w'.heap.size w' w''
theorem z3C.below {w w':World} {okT:Tst->Bool} {okC:Cel->Bool} {okK:List Int->Bool} (h:z3C w okT okC okK) (hb:Below w.heap.size w w'):z3C w' okT okC okK:=
 ⟨fun t w2 h2=>h.1 t w2 (z1A hb h2),fun c w2 h2=>h.2.1 c w2 (z1A hb h2),fun ks v w2 h2=>h.2.2 ks v w2 (z1A hb h2)⟩
def j1R (okT:Tst->Bool) (okC:Cel->Bool) (okK:List Int->Bool) (d:Nd):Option (Nat × Bool):=
 if d.eqB (q2H d) then some (0,decide (0<=d.n/\d.n<3)) else if d.eqB (q2G d) then some (1,okT d.t) else if d.eqB (q2F d) then some (1,decide (1<=d.cs.length/\d.cs.length<=6)&&d.cs.all okC)
 else if d.eqB (q2E d) then some (2,decide (0<=d.a/\d.a<6)&&decide (0<=d.b/\d.b<6)) else if d.eqB (q2D d) then some (2,true) else if d.eqB (q2C d) then some (1,true)
 else if d.eqB (q2O d) then some (1,okK d.ks&&decide (0<=d.g/\d.g<4)&&decide (0<=d.c/\d.c<6)) else none
theorem kind_any (d:Nd) (vc vk vd:Value) (w:World) (hc:q1J w vc d.cs) (hk:RawInts w vk d.ks) (hl1:d.cs.length<=140737488355328) (hl3:d.ks.length<=140737488355328) (pa:Addr) (hn:NoPlan w pa) (okT:Tst->Bool) (okC:Cel->Bool) (okK:List Int->Bool) (hO:z3C w okT okC okK) :
  Calls Tryz.prog 58 #[.agg (z1J d vc vk vd).toArray] w fun e w'=>(∃ (T:TypeId) (x:Value) (k:Nat) (fit:Bool),j1R okT okC okK d=some (k,fit)/\e = .returned (.iface T x)/\IsKind w T x k fit/\Below w.heap.size w w')\/(j1R okT okC okK d=none/\e = .panicked [{ v:=.iface 248 (.pointer (some pa)),recovered:=false }]/\Below w.heap.size w w'):=by
 obtain ⟨_,ca,cc,rfl,hcn,hcx⟩:=id hc;obtain ⟨_,ka,kc,rfl,hkn,hkx⟩:=id hk;unfold j1R;by_cases e1:d.eqB (q2H d)=true
 ·
  rw [if_pos e1];refine (k4N d ca ka _ cc _ kc vd w hc hk hl1 hl3 (Nd.eqB_iff.1 e1)).mono ?_;rintro e w1 ⟨⟨v,rfl,rfl⟩,hb1⟩;refine .inl ⟨_,_,_,_,rfl,rfl,?_,hb1⟩;refine ⟨by decide,200,.agg #[],201,mKids1 _,enters_of Tryz.func200 (by kernel_rfl) rfl,x5O,mFits1 _,enters_of Tryz.func201 (by kernel_rfl) rfl,nFits1 _,?_⟩;exact fun w' _ v _=>k2S d.n v w'
 rw [if_neg e1];by_cases e2:d.eqB (q2G d)=true
 ·
  rw [if_pos e2];refine (k4M d ca ka _ cc _ kc vd w hc hk hl1 hl3 (Nd.eqB_iff.1 e2)).mono ?_;rintro e w1 ⟨⟨v,rfl,rfl⟩,hb1⟩;refine .inl ⟨_,_,_,_,rfl,rfl,?_,hb1⟩;refine ⟨by decide,205,.agg #[],206,mKids2 _ _ _ _ _ _ _ _ _ _,enters_of Tryz.func205 (by kernel_rfl) rfl,x2W,mFits2 _,enters_of Tryz.func206 (by kernel_rfl) rfl,nFits2 _,?_⟩;exact fun w' hb v ⟨g,hv,h1,h2⟩=>hv ▸ k2R d.t 6 0 g 0 1 w' h1 h2 (okT d.t) (fun w2 h=>hO.1 d.t w2 (z1A hb h))
 rw [if_neg e2];by_cases e3:d.eqB (q2F d)=true
 ·
  rw [if_pos e3];refine (k4L d ca ka _ cc _ kc vd w hc hk hl1 hl3 (Nd.eqB_iff.1 e3)).mono ?_;rintro e w1 ⟨⟨v,rfl,rfl⟩,hb1⟩;refine .inl ⟨_,_,_,_,rfl,rfl,?_,hb1⟩;refine ⟨by decide,205,.agg #[],212,mKids3 _,enters_of Tryz.func205 (by kernel_rfl) rfl,x2W,mFits3 _,enters_of Tryz.func212 (by kernel_rfl) rfl,nFits3 _,?_⟩;by_cases h16:1<=d.cs.length/\d.cs.length<=6
  ·
   rw [decide_eq_true h16,Bool.true_and];rintro w' hb v ⟨g,rfl,h1,h2⟩;obtain ⟨cb,co,rfl,hcb,hcc⟩:=hcx (fun h=>by rw [h] at h16; exact absurd h16.1 (by decide));exact z3Z d.cs cb co cc _ 6 g 0 1 okC w' h16.1 h16.2 rfl (Nat.lt_of_lt_of_le hcb hb.size) (fun j hj=>(hcc j hj).below hb hcb) h1 h2 (fun c w2 h=>hO.2.1 c w2 (z1A hb h))
  ·
   rw [decide_eq_false h16,Bool.false_and];exact fun w' hb v _=>x3H ca _ cc v w' (by omega)
 rw [if_neg e3];by_cases e4:d.eqB (q2E d)=true
 ·
  rw [if_pos e4];refine (k4K d ca ka _ cc _ kc vd w hc hk hl1 hl3 (Nd.eqB_iff.1 e4)).mono ?_;rintro e w1 ⟨⟨v,rfl,rfl⟩,hb1⟩;refine .inl ⟨_,_,_,_,rfl,rfl,?_,hb1⟩;refine ⟨by decide,216,.agg #[],217,mKids4 _ _,enters_of Tryz.func216 (by kernel_rfl) rfl,j3C,mFits4 _,enters_of Tryz.func217 (by kernel_rfl) rfl,nFits4 _,?_⟩;exact fun w' hb v ⟨g,hv,h1,h2,h3⟩=>hv ▸ q3A d.a d.b 6 6 g 0 2 w' h1 h2 h3
 rw [if_neg e4];by_cases e5:d.eqB (q2D d)=true
 ·
  rw [if_pos e5];refine (k4J d ca ka _ cc _ kc vd w hc hk hl1 hl3 (Nd.eqB_iff.1 e5)).mono ?_;rintro e w1 ⟨⟨v,rfl,rfl⟩,hb1⟩;refine .inl ⟨_,_,_,_,rfl,rfl,?_,hb1⟩;refine ⟨by decide,216,.agg #[],221,mKids5,enters_of Tryz.func216 (by kernel_rfl) rfl,j3C,mFits5 _,enters_of Tryz.func221 (by kernel_rfl) rfl,nFits5 _,?_⟩;exact fun w' hb v ⟨g,hv,h1,h2,h3⟩=>hv ▸ q3B 6 6 g 0 2 w' h1 h2 h3
 rw [if_neg e5];by_cases e6:d.eqB (q2C d)=true
 ·
  rw [if_pos e6];refine (k4I d ca ka _ cc _ kc vd w hc hk hl1 hl3 (Nd.eqB_iff.1 e6)).mono ?_;rintro e w1 ⟨⟨v,rfl,rfl⟩,hb1⟩;refine .inl ⟨_,_,_,_,rfl,rfl,?_,hb1⟩;refine ⟨by decide,205,.agg #[],225,mKids6,enters_of Tryz.func205 (by kernel_rfl) rfl,x2W,mFits6 _,enters_of Tryz.func225 (by kernel_rfl) rfl,nFits6 _,?_⟩;exact fun w' _ v _=>z3Y v w'
 rw [if_neg e6];by_cases e7:d.eqB (q2O d)=true
 ·
  rw [if_pos e7];refine (k4H d ca ka _ cc _ kc vd w hc hk hl1 hl3 (Nd.eqB_iff.1 e7)).mono ?_;rintro e w1 ⟨⟨v,rfl,rfl⟩,hb1⟩;refine .inl ⟨_,_,_,_,rfl,rfl,?_,hb1⟩;refine ⟨by decide,205,.agg #[],229,mKids7 _ _ _,enters_of Tryz.func205 (by kernel_rfl) rfl,x2W,mFits7 _,enters_of Tryz.func229 (by kernel_rfl) rfl,nFits7 _,?_⟩;exact fun w' hb v ⟨g,hv,h1,h2⟩=>hv ▸ k2T ka _ kc d.g d.c 6 0 g 0 1 w' h1 h2 (okK d.ks) (fun w2 h=>hO.2.2 d.ks _ w2 (z1A hb h) ((hk.below hb).below h) hl3)
 rw [if_neg e7];refine (kindOf8 d ca ka _ cc _ kc vd w hc hk hl1 hl3 pa hn (fun h=>e1 (Nd.eqB_iff.2 h)) (fun h=>e2 (Nd.eqB_iff.2 h)) (fun h=>e3 (Nd.eqB_iff.2 h)) (fun h=>e4 (Nd.eqB_iff.2 h)) (fun h=>e5 (Nd.eqB_iff.2 h)) (fun h=>e6 (Nd.eqB_iff.2 h)) (fun h=>e7 (Nd.eqB_iff.2 h))).mono ?_;rintro e w1 ⟨rfl,hb1⟩;exact .inr ⟨rfl,rfl,hb1⟩
theorem j2L {l n:Nat} {P:Program} {f:FuncId} {args:Array Value} {w:World} {R:Ending->World->Prop} (h:Calls P f args w R):CallsIn (Fence.wide.inRound l) n P f args w R:=(callsIn_wide (n:=n)).2 h
theorem x1B (b:Bool) (w:World) (pa:Addr) (h:NoPlan w pa):Calls Tryz.prog 90 #[.bool b] w fun e w'=>(b=true/\e = .returned (.tuple #[])/\w=w')\/(b=false/\e = .panicked [{ v:=.iface 248 (.pointer (some pa)),recovered:=false }]/\w=w'):=by
 cases b with
 | true=>exact (j3L w).mono fun e w' h=> .inl ⟨rfl,h.1,h.2.symm⟩
 | false=>exact (j4R w pa h).mono fun e w' h=> .inr ⟨rfl,h.1,h.2.symm⟩
theorem j4T {n1 mb D l:Nat} {c:Int} {t:TypeId} {r:Loop} {W W5:World} (hmb:mb<D) (hD:D<l) (hl:l<n1) (hn1:n1<=W.heap.size) (hM:W.heap[mb]? = some (.cells #[.int .i64 c] t)) (hL:W.heap[l]? = some (.loop r)) (hDd:W.heap[D]? = some (.deferred (some [])))
  (h5:Below W.heap.size W W5) (o:Obj):W5.heap[l]? = some (.loop r)/\(W5.putObj l o).heap[mb]? = some (.cells #[.int .i64 c] t):=
 ⟨z1F hL h5,(World.putObj_heap_other (by omega)).trans (z1F hM h5)⟩
theorem q4L {W:World} {b:Nat} {c:Int} {t:TypeId} (h:W.heap[b]? = some (.cells #[.int .i64 c] t)):W.cell? ⟨b,0,none⟩=some (.int .i64 c)/\W.frozen? ⟨b,0,none⟩=false:=⟨cell_at h rfl,by simp [World.frozen?,h]⟩
theorem box_set {W:World} {b:Nat} {c c':Int} {t:TypeId} (h:W.heap[b]? = some (.cells #[.int .i64 c] t)):(W.setCell ⟨b,0,none⟩ (.int .i64 c')).heap[b]? = some (.cells #[.int .i64 c'] t):=by
 rw [World.setCell,Array.getElem?_modify];simp [h]
theorem x2L {B l:Nat} {w W:World} (h:Below B w W) (hB:B<=W.heap.size) (hl:B<=l) (o:Obj):Below B w (W.putObj l o):=h.grown (grownBy_putObj' W l o) hB (fun k e=>by cases e; exact hl)
theorem mem_then {n1 mb D l:Nat} {c c':Int} {t:TypeId} {r:Loop} {W W5:World} (hmb:mb<D) (hD:D<l) (hl:l<n1) (hn1:n1<=W.heap.size) (hM:W.heap[mb]? = some (.cells #[.int .i64 c] t)) (hL:W.heap[l]? = some (.loop r)) (hDd:W.heap[D]? = some (.deferred (some [])))
  (h5:Below W.heap.size W W5) (r':Loop) (W7:World) (h7:W7=(W5.putObj l (.loop r')).setCell ⟨mb,0,none⟩ (.int .i64 c')) (B:Nat) (w:World) (hw:Below B w W) (hB:B<=mb) :
  W7.heap.size=W5.heap.size/\Below B w W7/\W7.heap[mb]? = some (.cells #[.int .i64 c'] t)/\W7.heap[l]? = some (.loop r')/\W7.heap[D]? = some (.deferred (some []))/\z3D n1 W W7/\(∀ b,b<W5.heap.size->W.heap.size<=b->W7.heap[b]? = W5.heap[b]?):=by
 subst h7;have hs:=h5.size;have hs7:((W5.putObj l (.loop r')).setCell ⟨mb,0,none⟩ (.int .i64 c')).heap.size=W5.heap.size:=by simp [World.setCell]
 have ho:∀ b,b≠mb->b≠l->((W5.putObj l (.loop r')).setCell ⟨mb,0,none⟩ (.int .i64 c')).heap[b]? = W5.heap[b]?:=fun b h1 h2=>(Below.heap_setCell _ ⟨mb,0,none⟩ _ b h1).trans (World.putObj_heap_other h2);refine ⟨hs7,?_,?_,?_,?_,⟨by omega,fun b h1 h2=> ?_⟩,fun b h1 h2=>ho b (by omega) (by omega)⟩
 ·
  exact (x2L (hw.trans (h5.mono (by omega))) (by omega) (by omega) _).setCell hB _
 ·
  exact box_set (j4T hmb hD hl hn1 hM hL hDd h5 (.loop r')).2
 ·
  exact (Below.heap_setCell _ ⟨mb,0,none⟩ _ l (by show l≠mb; omega)).trans (World.putObj_heap_same (by omega))
 ·
  exact (ho D (by omega) (by omega)).trans (z1F hDd h5)
 ·
  exact (ho b (by omega) (by omega)).trans (h5.block b h2)
theorem q6D {n1 mb D l:Nat} {c':Int} {t:TypeId} {r' r'':Loop} {W W7 W9:World} (hmb:mb<D) (hD:D<l) (hl:l<n1) (hn1:n1<=W7.heap.size) (hM:W7.heap[mb]? = some (.cells #[.int .i64 c'] t)) (hL:W7.heap[l]? = some (.loop r')) (hDd:W7.heap[D]? = some (.deferred (some [])))
  (hk:z3D n1 W W7) (B:Nat) (w:World) (hw:Below B w W7) (hB:B<=mb) (h9:Below W7.heap.size W7 W9) :
  W9.heap[l]? = some (.loop r')/\(W9.putObj l (.loop r'')).heap[mb]? = some (.cells #[.int .i64 c'] t)/\(W9.putObj l (.loop r'')).heap[l]? = some (.loop r'')/\(W9.putObj l (.loop r'')).heap[D]? = some (.deferred (some []))/\Below B w (W9.putObj l (.loop r''))/\z3D n1 W (W9.putObj l (.loop r''))/\W9.heap[D]? = some (.deferred (some []))/\Below B w W9:=by
 have hs:=h9.size;have hb9:Below B w W9:=hw.trans (h9.mono (by omega));refine ⟨z1F hL h9,(World.putObj_heap_other (by omega)).trans (z1F hM h9),World.putObj_heap_same (by omega),(World.putObj_heap_other (by omega)).trans (z1F hDd h9),x2L hb9 (by omega) (by omega) _,⟨?_,fun b h1 h2=> ?_⟩,z1F hDd h9,hb9⟩
 ·
  have:=hk.1; simp; omega
 ·
  have:=hk.1;exact (World.putObj_heap_other (by omega)).trans ((h9.block b (by omega)).trans (hk.2 b h1 h2))
end Go.Proofs.YtmjaepdplbgohaaGreatDoor.Kd
namespace Go.Proofs.YtmjaepdplbgohaaGreatDoor
open Go.RowKit
def WpAt (P:Program) (fn:FuncId) (c:Code) (Q:Exit->Act->World->Prop) (a:Act) (w:World):Prop:=
 ∀ (b:Frame) (k:List Item) (cs:List Frame),b.roundOf=none->b.fn=fn->∃ e a' w',Q e a' w'/\ArrivesIn (Machine.fenced P Fence.wide) P (lone (b.atR a (.code c :: k)) cs w) b k cs e a' w'
theorem k3T {P:Program} {fn:FuncId} {c:Code} {Q:Exit->Act->World->Prop} {a:Act} {w:World} {n:Nat} (h:c.wpIn Fence.wide n P Q a w):WpAt P fn c Q a w:=
 fun b k cs hro _=>h b k cs hro trivial (room_wide _)
def Ends (Q:Act->World->Prop) (X:List PanicEntry->Act->World->Prop):Exit->Act->World->Prop
 | .normal,a,w=>Q a w
 | .panic ch,a,w=>X ch a w
 | _,_,_=>False
theorem q3O {P:Program} {fn:FuncId} {x y:Code} {Q:Exit->Act->World->Prop} {a:Act} {w:World} (h:WpAt P fn x (Ends (WpAt P fn y Q) (fun ch=>Q (.panic ch))) a w):WpAt P fn (.seq x y) Q a w:=by
 intro b k cs hro hb;have h0:=fenced_wide P (lone (b.atR a (.code (.seq x y) :: k)) cs w);obtain ⟨e,a1,w1,hq,harr⟩:=h b (.code y :: k) cs hro hb;match e,hq,harr with
 | .normal,hq,harr=>
  obtain ⟨e2,a2,w2,hq2,harr2⟩:=hq b k cs hro hb;exact ⟨e2,a2,w2,hq2,.of_steps (.head h0 stepR_seq harr) harr2⟩
 | .panic ch,hq,⟨todo,hs⟩=>exact ⟨.panic ch,a1,w1,hq,todo,.head h0 stepR_seq hs⟩
theorem j5M {P:Program} {fn:FuncId} {id:Nat} {c:Code} {Q:Act->World->Prop} {X:List PanicEntry->Act->World->Prop} {a:Act} {w:World} (h:WpAt P fn c (Ends Q X) a w):WpAt P fn (.block id c) (Ends Q X) a w:=by
 intro b k cs hro hb;have h0:=fenced_wide P (lone (b.atR a (.code (.block id c) :: k)) cs w);obtain ⟨e,a1,w1,hq,harr⟩:=h b (.inBlock id :: k) cs hro hb;match e,hq,harr with
 | .normal,hq,harr=>exact ⟨.normal,a1,w1,hq,.head h0 stepR_block (StepsIn.trans harr (.one (fenced_wide _ _) stepR_inBlock))⟩
 | .panic ch,hq,⟨todo,hs⟩=>exact ⟨.panic ch,a1,w1,hq,todo,.head h0 stepR_block hs⟩
theorem j5L {P:Program} {fn:FuncId} {g:Operand} {ps:Array Tmp} {assign body:Code} {Q:Act->World->Prop} {X:List PanicEntry->Act->World->Prop} {a:Act} {w:World} {gf:Nat} {lb:Array Value} (hg:a.eval g = .func (.func gf) #[] lb) (eg:∀ args w,(callFunc gf args).run P w = .ok (.enter gf args) w)
  (h:∀ (r:Loop) (W1:World),W1=(w.alloc (.deferred (some []))).alloc (.loop r)->r = { state:=.ready,pending:=none,fn:=fn,tmps:=a.tmps,params:=ps,assign:=assign,body:=body,defers:=w.heap.size } →
   CallsIn Fence.wide 0 P gf (#[.func (.yield (w.heap.size+1)) #[] #[]]++lb) W1 fun e W3=>(∃ v r3,e = .returned v/\W3.heap[w.heap.size+1]? = some (.loop r3)/\r3.state≠.busy/\r3.pending=none/\∀ o,Q { a with defers:={ target:=.collected w.heap.size,args:=#[] } :: a.defers } (W3.putObj (w.heap.size+1) o))
    ∨ (∃ ch,e = .panicked ch/\X ch { a with defers:={ target:=.collected w.heap.size,args:=#[] } :: a.defers } W3)) :
  WpAt P fn (.rangeFunc g ps assign body) (Ends Q X) a w:=by
 intro b k cs hro hb;subst hb;have he:=run_enterLoop_outer (P:=P) (w:=w) b.fn a.tmps ps assign body;rw [<-hro] at he;have hres:∀ W,(resolve a.eval (rangeCall g (w.heap.size+1)) 0).run P W = .ok { target:=.fn (.func gf) lb,args:=#[.func (.yield (w.heap.size+1)) #[] #[]] } W:=fun W=>by
  simp only [resolve,hg]
  simp [go_sem]
 have hinv:∀ W,(invoke (.fn (.func gf) lb) #[.func (.yield (w.heap.size+1)) #[] #[]]).run P W = .ok (.enter gf (#[.func (.yield (w.heap.size+1)) #[] #[]]++lb)) W:=fun W=>by simp [invoke,go_sem,eg]
 have henter:=stepR_rangeFunc (P:=P) (b:=b) (a:=a) (k:=k) (cs:=cs) (w:=w) he (hres _) (hinv _);obtain ⟨e,w3,fr,hR,hsteps,hfn,hleave⟩:=(h _ _ rfl rfl).2 (b.atR { a with defers:=[{ target:=.collected w.heap.size,args:=#[] }]++a.defers } (.inRangeFunc (w.heap.size+1) :: k) :: cs) (room_wide _);have hw:=fun m=>fenced_wide P m;rcases hR with ⟨v,r3,rfl,hl,hs,hp,hQ⟩ | ⟨ch,rfl,hX⟩
 ·
  have hend:=run_endLoop (P:=P) hl hs;rw [hp] at hend;refine ⟨.normal,_,_,hQ (.loop { r3 with state:=.exhausted,pending:=none }),.head (hw _) henter (StepsIn.trans hsteps (.head (hw _) (step_leave_returned hleave) ?_))⟩;rw [finish_atR_inRangeFunc];exact .one (hw _) (stepR_endRangeFunc hend)
 ·
  refine ⟨.panic ch,_,w3,hX,.inRangeFunc (w.heap.size+1) :: k,.head (hw _) henter (StepsIn.trans hsteps (.one (hw _) ?_))⟩;rw [<-Frame.raise_atR];exact step_leave_panicked hleave
theorem z5I {P:Program} {f:FuncId} {fn:Func} {c:Code} {args:Array Value} {w:World} {R:Ending->World->Prop} (hf:P.funcs[f]? = some fn) (hb:fn.body=some c)
  (h:WpAt P f c (bodyPostM Fence.wide 0 P fn R) { tmps:=args++Array.replicate (fn.ntmps - args.size) undef,defers:=[] } w):CallsIn Fence.wide 0 P f args w R:=by
 refine ⟨trivial,fun cs hr=> ?_⟩;let b:Frame:={ (default:Frame) with fn:=f,kind:=.normal,roundOf:=none };have henter:Frame.enter P f args .normal=b.atR { tmps:=args++Array.replicate (fn.ntmps - args.size) undef,defers:=[] } [.code c]:=by
  simp [Frame.enter,Frame.atR,hf,hb,b]
 obtain ⟨e,a',w',hq,harr⟩:=h b [] cs rfl rfl;rw [<-henter] at harr;match e,hq,harr with
 | .normal,hq,harr=>
  obtain ⟨e',w2,fr',hR,hs,hfn,hl⟩:=leaves_stepsInM (F:=Fence.wide) a'.defers .returning w' { b.atR a' [] with mode:=.returning } cs rfl rfl rfl hf rfl trivial hr hq;exact ⟨e',w2,fr',hR,ComesIn.of_steps (StepsIn.trans harr (.one (fenced_wide _ _) (stepR_end rfl))) hs,hfn,hl⟩
 | .ret,hq,harr=>
  obtain ⟨todo,hs0⟩:=harr.1 rfl;obtain ⟨e',w2,fr',hR,hs,hfn,hl⟩:=leaves_stepsInM (F:=Fence.wide) a'.defers .returning w' { b.atR a' todo with mode:=.returning } cs rfl rfl rfl hf rfl trivial hr hq;exact ⟨e',w2,fr',hR,ComesIn.of_steps hs0 hs,hfn,hl⟩
 | .panic ch,hq,⟨todo,hs0⟩=>
  obtain ⟨e',w2,fr',hR,hs,hfn,hl⟩:=leaves_stepsInM (F:=Fence.wide) a'.defers (.panicking ch) w' { b.atR a' todo with mode:=.panicking ch } cs rfl rfl rfl hf rfl trivial hr hq;exact ⟨e',w2,fr',hR,ComesIn.of_steps hs0 hs,hfn,hl⟩
 | .outgrown,hq,harr=>exact ⟨.outgrown,w',b,hq,harr.resolve_left (by simp [b]),rfl,trivial⟩
end Go.Proofs.YtmjaepdplbgohaaGreatDoor
namespace Go.Proofs.YtmjaepdplbgohaaGreatDoor.Kd
open Go.RowKit Go.Shelf
attribute [local go_sem] Oper.semAt_some
def j2Z (okT:Tst->Bool) (okC:Cel->Bool) (okK:List Int->Bool) (c:Nat) (d:Nd) (kn ar:Nat):Option Nat:=
 if c+1<=10/\ar<6 then (j1R okT okC okK d).bind fun x=>if kn=x.1/\x.2=true then some (c+1) else none else none
theorem x5J {P:Program} {w:World} {l:Nat} {r:Loop} {u v:Value} (h:w.heap[l]? = some (.loop r)) (hp:r.params=#[9,10]):(Instr.yield l #[u,v]).run P w = .ok (.round l r.fn ((r.tmps.setIfInBounds 9 u).setIfInBounds 10 v) r.assign r.body) w:=by
 rw [run_yield h (by rw [hp]; rfl),hp];simp
theorem x5M {w w':World} {b o:Nat} {l:List Value} (h:w.rangeAt b o l) (hs:w'.heap[b]? = w.heap[b]?):w'.rangeAt b o l:=fun j v hv=>by
 have:=h j v hv
 simpa [World.cell?,hs] using this
theorem j3P {w:World} {b o:Nat} {v:Value} {l:List Value} (h:w.rangeAt b o (v :: l)):b<w.heap.size:=World.block_lt_of_cell? w ⟨b,o,none⟩ (h 0 v rfl)
theorem wrap_small {z:Int} (h1:0<=z) (h2:z<=1048577):IntKind.i64.wrap z=z:=by
 rw [IntKind.wrap_i64];omega
theorem j2Y {okT:Tst->Bool} {okC:Cel->Bool} {okK:List Int->Bool} {c kn ar k:Nat} {d:Nd} {fit:Bool} (h10:(c:Int)+1<=10) (h6:decide ((ar:Int)<6)=true) (h:j1R okT okC okK d=some (k,fit)):j2Z okT okC okK c d kn ar=if kn=k/\fit=true then some (c+1) else none:=by
 have h6':=of_decide_eq_true h6;rw [j2Z,if_pos (by omega),h];rfl
theorem v3Y {r:Loop} (h:r.state = .ready/\r.pending=none):({ ({ r with state:=.busy }:Loop) with state:=if (none:Option Code).isNone then .ready else .done,pending:=none }:Loop)=r:=by
 obtain ⟨h1,h2⟩:=h;cases r;simp_all
theorem three_at (w:World) (a b c:Obj):(((w.alloc a).alloc b).alloc c).heap[w.heap.size+2]? = some c:=by
 have h:=alloc_at ((w.alloc a).alloc b) c;rwa [q1C,q1C] at h
theorem mustW (n:Nat) (p:Pl (n+1)) (vc vk:Value) (da:Option Addr) (dc:Nat) (w:World) (hp:q1X (NodeAt n) w p.nd p.kids vc vk (.slice da p.kids.length dc)) (hz:Pl.sz (n+1) p<=1048576) (hn:n<=1048576) (pa:Addr) (hN:NoPlan w pa) (okT:Tst->Bool) (okC:Cel->Bool) (okK:List Int->Bool) (hO:z3C w okT okC okK) :
  Calls Tryz.prog 45 #[.agg (z1J p.nd vc vk (.slice da p.kids.length dc)).toArray] w fun e w'=>(∃ c:Nat,x2B (j2Z okT okC okK) (n+1) p 0 0=some c/\e = .returned (.int .i64 c)/\Below w.heap.size w w')\/(x2B (j2Z okT okC okK) (n+1) p 0 0=none/\e=x2M pa/\Below w.heap.size w w'):=by
 have hla:(Tryz.prog.info? 31).map (·.size)=some (z1J p.nd vc vk (.slice da p.kids.length dc)).length:=by kernel_rfl
 have HA:Hid (((w.alloc (.cells (z1J p.nd vc vk (.slice da p.kids.length dc)).toArray 31)).alloc (.cells #[.int .i64 0] 3)).rangeAt w.heap.size 0 (z1J p.nd vc vk (.slice da p.kids.length dc))):=j1B (z1F (alloc_at _ _) (z1B _));refine callsIn_wide.1 (z5I Tryz.func45 rfl ?_);simp only [Tryz.ntmps45,List.size_toArray,List.length_cons,List.length_nil,Nat.reduceAdd,Nat.reduceSub,Array.replicate_succ,Array.replicate_zero,List.push_toArray,List.append_toArray,List.nil_append,List.cons_append];refine q3O (k3T (n:=0) ?_);gi_wp2_with fail;refine q3O (k3T (n:=0) ?_);gi_wp2_with fail;refine q3O (q3O (k3T (n:=0) ?_));gi_wp2_with (first | refine z1S rfl 31 _ rfl w.heap.size 0 rfl _ _ HA.out Tryz.underlying31 rfl hla ?_ | ((try refine ⟨trivial,rfl,?_⟩); gi_at_call 89; refine callsIn_wide.2 ((z6N n p vc vk da dc _).mono ?_); rintro e w1 ⟨rfl,rfl⟩));refine j5M ?_;obtain ⟨w2,hw2⟩:∃ w2,w2=((w.alloc (.cells (z1J p.nd vc vk (.slice da p.kids.length dc)).toArray 31)).alloc (.cells #[.int .i64 0] 3)).alloc (.cells (z1J p.nd vc vk (.slice da p.kids.length dc)).toArray 31):=⟨_,rfl⟩;rw [<-hw2];have hs2:w2.heap.size=w.heap.size+3:=by rw [hw2]; simp
 have HM2:Hid (w2.heap[w.heap.size+1]? = some (.cells #[.int .i64 0] 3)):=by
  rw [hw2]; exact z1F (two _ _ _).2.1 (z1B _)
 have HQ2:Hid (w2.heap[w.heap.size+2]? = some (.cells (z1J p.nd vc vk (.slice da p.kids.length dc)).toArray 31)):=by
  rw [hw2]; exact three_at _ _ _ _
 have HB2:Hid (Below w.heap.size w w2):=by
  rw [hw2]; exact z1A (two _ _ _).2.2 (z1B _)
 have HS2:=hidden hs2;clear hw2 HA hs2;refine j5L (gf:=140) (lb:=#[.pointer (some ⟨w.heap.size+2,0,none⟩)]) rfl (enters_of Tryz.func140 (by kernel_rfl) rfl) ?_;intro r W1 hW1 hr;have HL1:Hid (W1.heap[w2.heap.size+1]? = some (.loop r)):=by rw [hW1]; exact (two _ _ _).2.1
 have HD1:Hid (W1.heap[w2.heap.size]? = some (.deferred (some []))):=by rw [hW1]; exact (two _ _ _).1
 have HB1:Hid (Below w2.heap.size w2 W1):=by rw [hW1]; exact (two _ _ _).2.2
 have HS1:Hid (W1.heap.size=w2.heap.size+2):=by rw [hW1]; rw [q1C,q1C]; exact rfl
 have HFN:Hid (r.fn=45):=by rw [hr]; exact rfl
 have HST:Hid (r.state = .ready/\r.pending=none/\r.params=#[9,10]):=by rw [hr]; exact ⟨rfl,rfl,rfl⟩
 have hrt:=congrArg Loop.tmps hr;have hra:=congrArg Loop.assign hr;have hrb:=congrArg Loop.body hr;dsimp only at hrt hra hrb;clear hW1 hr;have hY:x6I Fence.wide (w2.heap.size+1) (w2.heap.size+2) w pa (fun c W=>c<=10/\W.heap[w.heap.size+1]? = some (.cells #[.int .i64 (c:Nat)] 3)/\W.heap[w2.heap.size+1]? = some (.loop r)/\W.heap[w2.heap.size]? = some (.deferred (some []))) (fun W=>W.heap[w2.heap.size]? = some (.deferred (some []))/\Below w.heap.size w W) (j2Z okT okC okK):=by
  intro m c ar d xc xk xa kn xd W hn1 hj hw hcs hks hl1 hl3;obtain ⟨hc10,hM,hL,hD⟩:=hj;refine ⟨_,_,_,_,x5J hL HST.out.2.2,?_⟩;rw [HFN.out,hrt,hra,hrb];refine j4J trivial ⟨_,Tryz.func45⟩ ?_;obtain ⟨_,xca,xcc,rfl,_⟩:=id hcs;obtain ⟨_,xka,xkc,rfl,_⟩:=id hks;simp only [List.setIfInBounds_toArray,List.set_cons_succ,List.set_cons_zero];have hix:(Tryz.prog.info? 31).map (·.size)=some (z1J d (.slice xca d.cs.length xcc) (.slice xka d.ks.length xkc) (.slice xa kn xd)).toArray.size:=by kernel_rfl
  have hlx:(Tryz.prog.info? 31).map (·.size)=some (z1J d (.slice xca d.cs.length xcc) (.slice xka d.ks.length xkc) (.slice xa kn xd)).length:=by kernel_rfl
  have h1x:(z1J d (.slice xca d.cs.length xcc) (.slice xka d.ks.length xkc) (.slice xa kn xd)).toArray.all (·.oneCell')=true:=by simp [Value.oneCell']
  have HM:Hid (W.heap[w.heap.size+1]? = some (.cells #[.int .i64 (c:Nat)] 3)):=hM;have HL:Hid (W.heap[w2.heap.size+1]? = some (.loop r)):=hL;have HD:Hid (W.heap[w2.heap.size]? = some (.deferred (some []))):=hD;have HW:Hid (Below w.heap.size w W):=hw;clear hM hL hD hw hrt hra hrb;gi_wp2_with (refine x1C rfl 31 _ _ rfl _ (z1J d (.slice xca d.cs.length xcc) (.slice xka d.ks.length xkc) (.slice xa kn xd)).toArray _ (Eq.refl (W.alloc _)) rfl rfl rfl hix h1x ?_; intro W5 hb5 hr5);have HB5:Hid (Below W.heap.size W W5):=hb5;obtain ⟨hl5,hm6⟩:=j4T (n1:=w2.heap.size+2) (mb:=w.heap.size+1) (D:=w2.heap.size) (l:=w2.heap.size+1) (by have:=HS2.out; omega) (by omega) (by omega) hn1 HM.out HL.out HD.out hb5 (.loop { r with state:=.busy });refine ⟨_,run_beginRound hl5 HST.out.1,?_⟩;obtain ⟨W7,hW7⟩:∃ W7,W7=(W5.putObj (w2.heap.size+1) (.loop { r with state:=.busy })).setCell ⟨w.heap.size+1,0,none⟩ (.int .i64 ((c:Int)+1)):=⟨_,rfl⟩;have hmem:=mem_then (n1:=w2.heap.size+2) (mb:=w.heap.size+1) (D:=w2.heap.size) (l:=w2.heap.size+1) (c':=(c:Int)+1) (by have:=HS2.out; omega) (by omega) (by omega) hn1 HM.out HL.out HD.out hb5 _ W7 hW7 w.heap.size w HW.out (Nat.le_succ _);have HMEM:=hidden hmem;obtain ⟨hcel,hfro⟩:=q4L hm6;have hcel7:W7.cell? ⟨w.heap.size+1,0,none⟩=some (.int .i64 ((c:Int)+1)):=(q4L hmem.2.2.1).1;have HR7:Hid (W7.rangeAt W.heap.size 0 (z1J d (.slice xca d.cs.length xcc) (.slice xka d.ks.length xkc) (.slice xa kn xd))):=x5M hr5 (hmem.2.2.2.2.2.2 _ (j3P hr5) (Nat.le_refl _));have hN7:NoPlan W7 pa:=⟨Nat.lt_of_lt_of_le hN.1 hmem.2.1.size,(hmem.2.1.cell (p:=⟨1,0,none⟩) hN.1).trans hN.2⟩;have HN7:=hidden hN7;have hwr:IntKind.i64.wrap ((c:Int)+1)=(c:Int)+1:=by rw [wrap_small] <;> omega
  have HW7:=hidden hW7;clear hmem hm6 hl5 hb5 hr5 hN7 hW7;have hdead:Hid (∀ (X:World),Below W7.heap.size W7 X->∀ (a:Act),a.defers=[]->j2Z okT okC okK c d kn ar=none->v3W Tryz.prog (w2.heap.size+1) (fun e W'=>(∃ c',j2Z okT okC okK c d kn ar=some c'/\e = .returned (.bool true)/\(fun c W=>c<=10/\W.heap[w.heap.size+1]? = some (.cells #[.int .i64 (c:Nat)] 3)/\W.heap[w2.heap.size+1]? = some (.loop r)/\W.heap[w2.heap.size]? = some (.deferred (some []))) c' W'/\Below w.heap.size w W'/\z3D (w2.heap.size+2) W W')\/(j2Z okT okC okK c d kn ar=none/\e = .panicked [{ v:=.iface 248 (.pointer (some pa)),recovered:=false }]/\(fun W=>W.heap[w2.heap.size]? = some (.deferred (some []))/\Below w.heap.size w W) W')) (.panic [{ v:=.iface 248 (.pointer (some pa)),recovered:=false }]) a X):=
   fun X hX a ha hs=>⟨ha,.inr ⟨hs,rfl,z1F HMEM.out.2.2.2.2.1 hX,z1A HMEM.out.2.1 hX⟩⟩
  have HCS7:Hid (q1J W7 (.slice xca d.cs.length xcc) d.cs):=hcs.below HMEM.out.2.1;have HKS7:Hid (RawInts W7 (.slice xka d.ks.length xkc) d.ks):=hks.below HMEM.out.2.1;have HO7:Hid (z3C W7 okT okC okK):=hO.below HMEM.out.2.1;have HCELL:Hid (∀ X,Below W7.heap.size W7 X->X.cell? ⟨W.heap.size,18,none⟩=some (.slice xa kn xd)):=fun X hX=>(hX.cell (p:=⟨W.heap.size,18,none⟩) (j3P HR7.out)).trans (HR7.out 18 _ rfl);clear hcs hks;by_cases h10:(c:Int)+1<=10
  ·
   gi_wp2_with (first | refine z1S rfl 31 _ rfl W.heap.size 0 rfl _ _ HR7.out Tryz.underlying31 rfl hlx ?_ | ((try refine ⟨trivial,(fun h=>nomatch h),?_⟩); gi_at_call 90; rw [<-HW7.out]; refine j2L ((x1B _ W7 pa HN7.out).mono ?_); rintro e w' (⟨hbt,rfl,rfl⟩ | ⟨hbt,rfl,rfl⟩)) | ((try refine ⟨trivial,(fun h=>nomatch h),?_⟩); gi_at_call 58; refine j2L ((kind_any d _ _ _ W7 HCS7.out HKS7.out hl1 hl3 pa HN7.out okT okC okK HO7.out).mono ?_); rintro e W8 (⟨T,x,k,fit,hix8,rfl,hkd,hb8⟩ | ⟨hix8,rfl,hb8⟩)))
   ·
    obtain ⟨hk2,fk,xk,ff,hmk,hek,hkc,hmf,hef,hnf,hfc⟩:=hkd;have HKC:=hidden hkc;have HFC:=hidden hfc;have HB8:=hidden hb8;clear hkc hfc hb8;have hmkf:∀ (fn:Fn) (first cap:Array Value) (w:World),(Instr.makeFunc fn first cap).run Tryz.prog w = .ok (.func fn first cap) w:=fun _ _ _ _=>rfl;refine z2M (S:=(fun X:World=>X.cell? ⟨W.heap.size,18,none⟩=some (.slice xa kn xd))) (by kernel_rfl) (by kernel_rfl) ?_ (fun hHeld=> ?_)
    ·
     (try dsimp only); exact HCELL.out _ (below_drewN HB8.out 1)
    refine tk 0 ?_; simp only [ap];refine tk 1 ?_; simp only [ap];refine tk 2 ?_; simp only [ap];refine tk 3 ?_; simp only [ap];refine r1 4 (fun K hK=> ?_);go_simp;(refine (HKC.out _).mono ?_; rintro e W9 ⟨rfl,hb9⟩; have HB9:Hid (Below W7.heap.size W7 W9):=z1A (below_drewN HB8.out 1) hb9; clear hb9);refine hK.out _ _ ?_ (fun hHeld=> ?_)
    ·
     (try dsimp only); exact HCELL.out _ HB9.out
    clear hK K;try simp only [ap]
    refine tk 5 ?_; simp only [ap];refine r1 6 (fun K hK=> ?_);go_simp;(go_at_call 90; refine (x1B _ _ pa (HN7.out.below HB9.out)).mono ?_; rintro e w' (⟨hkb,rfl,rfl⟩ | ⟨hkb,rfl,rfl⟩); rotate_left 1; (refine ⟨nofun,?_⟩; gi_wp2_with fail; exact hdead.out _ HB9.out _ rfl (by rw [j2Y h10 hbt hix8,if_neg (fun h=>by have:=of_decide_eq_false hkb; omega)])));refine hK.out _ _ ?_ (fun hHeld=> ?_)
    ·
     (try dsimp only); exact hHeld
    clear hK K;try simp only [ap]
    refine dn ?_;refine ⟨nofun,?_⟩;gi_wp2_with fail;refine z2M (S:=(fun _=>True)) (by kernel_rfl) (by kernel_rfl) ?_ (fun hHeld=> ?_)
    ·
     (try dsimp only); try trivial
    refine tk 0 ?_;simp only [Act.put,List.getElem_toArray,List.getElem_cons_zero,List.setIfInBounds_toArray,List.set_cons_zero,List.set_cons_succ];refine tk 2 ?_; simp only [ap];refine tk 5 ?_; simp only [ap];refine tk 6 ?_; simp only [ap];refine tk 7 ?_; simp only [ap];refine wpAnyH_ready (rs:=[1,3]) (by kernel_rfl) (by simp) ?_;refine AllReadyH.cons rfl (fun K hK=> ?_) (AllReadyH.cons rfl (fun K hK=> ?_) AllReadyH.nil)
    ·
     go_simp;refine hK.out _ _ ?_ (fun hHeld=> ?_)
     ·
      (try dsimp only); try trivial
     clear hK K;try simp only [ap]
     refine r1 3 (fun K hK=> ?_);go_simp;refine (HKC.out _).mono ?_;rintro e XK ⟨rfl,hbk⟩;have HS6:Hid (XK.heap[W9.drew.heap.size]? = some (.cells #[.int .i64 6] 3)):=z1F (alloc_at _ _) hbk;have HBA:Hid (Below W7.heap.size W7 XK):=z1A (z1A (below_drewN HB9.out 1) (z1B _)) hbk;clear hbk;refine hK.out _ _ ?_ (fun hHeld=> ?_)
     ·
      (try dsimp only); try trivial
     clear hK K;try simp only [ap]
     refine r1 4 (fun K hK=> ?_);go_simp;go_at_call 91;refine (z6F k hk2 _ 3 _ HS6.out).mono ?_;rintro e XR ⟨v,rfl,hsix,hbr⟩;have HSIX:=hidden hsix;have HBR:Hid (Below W7.heap.size W7 XR):=z1A HBA.out hbr;clear hbr hsix;refine hK.out _ _ ?_ (fun hHeld=> ?_)
     ·
      (try dsimp only); try trivial
     clear hK K;try simp only [ap]
     refine r1 8 (fun K hK=> ?_);go_simp;refine (HFC.out _ HBR.out v HSIX.out).mono ?_;rintro e XF ⟨rfl,hbf⟩;have HBZ:Hid (Below W7.heap.size W7 XF):=z1A HBR.out hbf;clear hbf;refine hK.out _ _ ?_ (fun hHeld=> ?_)
     ·
      (try dsimp only); try trivial
     clear hK K;try simp only [ap]
     refine r1 9 (fun K hK=> ?_);go_simp;go_at_call 90;refine (x1B _ _ pa (HN7.out.below HBZ.out)).mono ?_;rintro e w' (⟨hfb,rfl,rfl⟩ | ⟨hfb,rfl,rfl⟩);rotate_left 1
     ·
      (refine ⟨nofun,?_⟩; gi_wp2_with fail; exact hdead.out _ HBZ.out _ rfl (by rw [j2Y h10 hbt hix8,if_neg (fun h=>by rw [hfb] at h; exact absurd h.2 (by decide))]))
     refine hK.out _ _ ?_ (fun hHeld=> ?_)
     ·
      (try dsimp only); try trivial
     clear hK K;try simp only [ap]
     refine dn ?_;refine ⟨nofun,?_⟩;gi_wp2_with fail;obtain ⟨q1,q2,q3,q4,q5,q6,q7,q8⟩:=q6D (n1:=w2.heap.size+2) (mb:=w.heap.size+1) (D:=w2.heap.size) (l:=w2.heap.size+1) (r'':=r) (by have:=HS2.out; omega) (by omega) (by omega) (Nat.le_trans hn1 (by rw [HMEM.out.1]; exact HB5.out.size)) HMEM.out.2.2.1 HMEM.out.2.2.2.1 HMEM.out.2.2.2.2.1 HMEM.out.2.2.2.2.2.1 w.heap.size w HMEM.out.2.1 (Nat.le_succ _) HBZ.out;have hen:=run_endRound (P:=Tryz.prog) none q1;rw [v3Y ⟨HST.out.1,HST.out.2.1⟩] at hen;exact ⟨_,_,hen,.inl ⟨c+1,by rw [j2Y h10 hbt hix8,if_pos ⟨by have:=of_decide_eq_true hkb; omega,hfb⟩],rfl,⟨by omega,q2,q3,q4⟩,q5,q6⟩⟩
    ·
     go_simp;refine (HKC.out _).mono ?_;rintro e XK ⟨rfl,hbk⟩;have HBK:Hid (Below W7.heap.size W7 XK):=z1A (below_drewN HB9.out 1) hbk;have HS6:Hid ((XK.alloc (.cells #[.int .i64 6] 3)).heap[XK.heap.size]? = some (.cells #[.int .i64 6] 3)):=alloc_at _ _;have HBA:Hid (Below W7.heap.size W7 (XK.alloc (.cells #[.int .i64 6] 3))):=z1A HBK.out (z1B _);clear hbk;refine hK.out _ _ ?_ (fun hHeld=> ?_)
     ·
      (try dsimp only); try trivial
     clear hK K;try simp only [ap]
     refine r1 1 (fun K hK=> ?_);go_simp;refine hK.out _ _ ?_ (fun hHeld=> ?_)
     ·
      (try dsimp only); try trivial
     clear hK K;try simp only [ap]
     refine r1 4 (fun K hK=> ?_);go_simp;go_at_call 91;refine (z6F k hk2 _ 3 _ HS6.out).mono ?_;rintro e XR ⟨v,rfl,hsix,hbr⟩;have HSIX:=hidden hsix;have HBR:Hid (Below W7.heap.size W7 XR):=z1A HBA.out hbr;clear hbr hsix;refine hK.out _ _ ?_ (fun hHeld=> ?_)
     ·
      (try dsimp only); try trivial
     clear hK K;try simp only [ap]
     refine r1 8 (fun K hK=> ?_);go_simp;refine (HFC.out _ HBR.out v HSIX.out).mono ?_;rintro e XF ⟨rfl,hbf⟩;have HBZ:Hid (Below W7.heap.size W7 XF):=z1A HBR.out hbf;clear hbf;refine hK.out _ _ ?_ (fun hHeld=> ?_)
     ·
      (try dsimp only); try trivial
     clear hK K;try simp only [ap]
     refine r1 9 (fun K hK=> ?_);go_simp;go_at_call 90;refine (x1B _ _ pa (HN7.out.below HBZ.out)).mono ?_;rintro e w' (⟨hfb,rfl,rfl⟩ | ⟨hfb,rfl,rfl⟩);rotate_left 1
     ·
      (refine ⟨nofun,?_⟩; gi_wp2_with fail; exact hdead.out _ HBZ.out _ rfl (by rw [j2Y h10 hbt hix8,if_neg (fun h=>by rw [hfb] at h; exact absurd h.2 (by decide))]))
     refine hK.out _ _ ?_ (fun hHeld=> ?_)
     ·
      (try dsimp only); try trivial
     clear hK K;try simp only [ap]
     refine dn ?_;refine ⟨nofun,?_⟩;gi_wp2_with fail;obtain ⟨q1,q2,q3,q4,q5,q6,q7,q8⟩:=q6D (n1:=w2.heap.size+2) (mb:=w.heap.size+1) (D:=w2.heap.size) (l:=w2.heap.size+1) (r'':=r) (by have:=HS2.out; omega) (by omega) (by omega) (Nat.le_trans hn1 (by rw [HMEM.out.1]; exact HB5.out.size)) HMEM.out.2.2.1 HMEM.out.2.2.2.1 HMEM.out.2.2.2.2.1 HMEM.out.2.2.2.2.2.1 w.heap.size w HMEM.out.2.1 (Nat.le_succ _) HBZ.out;have hen:=run_endRound (P:=Tryz.prog) none q1;rw [v3Y ⟨HST.out.1,HST.out.2.1⟩] at hen;exact ⟨_,_,hen,.inl ⟨c+1,by rw [j2Y h10 hbt hix8,if_pos ⟨by have:=of_decide_eq_true hkb; omega,hfb⟩],rfl,⟨by omega,q2,q3,q4⟩,q5,q6⟩⟩
   ·
    exact ⟨rfl,(hdead.out _ hb8 { tmps:=#[],defers:=[] } rfl (by rw [j2Z,if_pos (by have:=of_decide_eq_true hbt; omega),hix8]; rfl)).2⟩
   ·
    exact ⟨rfl,(hdead.out _ (Below.refl _ _) { tmps:=#[],defers:=[] } rfl (by have:=of_decide_eq_false hbt; rw [j2Z,if_neg (by omega)])).2⟩
  ·
   have h10':10<(c:Int)+1:=by omega
   gi_wp2_with ((try refine ⟨trivial,(fun h=>nomatch h),?_⟩); gi_at_call 90; rw [<-HW7.out]; refine j2L ((x1B _ W7 pa HN7.out).mono ?_); rintro e w' (⟨hbt,rfl,rfl⟩ | ⟨hbt,rfl,rfl⟩));all_goals first | exact absurd hbt (by decide) | exact ⟨rfl,(hdead.out _ (Below.refl _ _) { tmps:=#[],defers:=[] } rfl (by rw [j2Z,if_neg (by omega)])).2⟩
 refine (z6O Fence.wide rfl trivial trivial rfl (w2.heap.size+1) (w2.heap.size+2) w pa (fun c W=>c<=10/\W.heap[w.heap.size+1]? = some (.cells #[.int .i64 (c:Nat)] 3)/\W.heap[w2.heap.size+1]? = some (.loop r)/\W.heap[w2.heap.size]? = some (.deferred (some []))) (fun W=>W.heap[w2.heap.size]? = some (.deferred (some []))/\Below w.heap.size w W) (j2Z okT okC okK) (fun c W W' hj hb hb'=>⟨hj.1,z1F hj.2.1 hb',z1F hj.2.2.1 hb',z1F hj.2.2.2 hb'⟩) hY n 0 0 (w.heap.size+2) p vc vk da dc W1 (z1F HQ2.out HB1.out) (by rw [HS1.out]; exact Nat.le_refl _) ⟨by omega,z1F HM2.out HB1.out,HL1.out,HD1.out⟩ (z1A HB2.out HB1.out) hp hz hn).mono ?_;have hs2:=HS2.out;clear hY hrt hra hrb;rintro e W3 (⟨c,hrun,rfl,⟨hc,hm,hl,hd⟩,hb3,hk3⟩ | ⟨hrun,rfl,hd,hb3⟩)
 ·
  refine .inl ⟨_,r,rfl,hl,(by rw [HST.out.1]; nofun),HST.out.2.1,fun o=> ?_⟩;have hlt:=(Array.getElem?_eq_some_iff.1 hl).1;have hm4:(W3.putObj (w2.heap.size+1) o).heap[w.heap.size+1]? = some (.cells #[.int .i64 (c:Nat)] 3):=(World.putObj_heap_other (by omega)).trans hm;have hcel:=(q4L hm4).1;have HD4:Hid ((W3.putObj (w2.heap.size+1) o).heap[w2.heap.size]? = some (.deferred (some []))):=(World.putObj_heap_other (by omega)).trans hd;have HB4:Hid (Below w.heap.size w (W3.putObj (w2.heap.size+1) o)):=x2L hb3 (by omega) (by omega) _;have HB5:Hid (Below w.heap.size w ((W3.putObj (w2.heap.size+1) o).putObj w2.heap.size (.deferred none))):=x2L HB4.out (by simp; omega) (by omega) _;have HRUN:=hidden hrun;clear hm4 hm hl hd hb3 hk3 hlt hs2 hrun;refine k3T (n:=0) ?_;gi_wp2_with fail;exact ⟨nofun,.inl ⟨_,_,rfl,run_takeDeferred HD4.out,_,results_tmp rfl _ _ _,.inl ⟨c,HRUN.out,rfl,HB5.out⟩⟩⟩
 ·
  have hlt:=hb3.size;have hlt2:=(Array.getElem?_eq_some_iff.1 hd).1;exact .inr ⟨_,rfl,nofun,.inl ⟨_,_,rfl,run_takeDeferred hd,.inr ⟨hrun,rfl,x2L hb3 (by omega) (by omega) _⟩⟩⟩
end Go.Proofs.YtmjaepdplbgohaaGreatDoor.Kd
namespace Go.Proofs.YtmjaepdplbgohaaGreatDoor.Kd
def cnt:(n:Nat)->Pl n->Nat
 | 0,_=>0
 | n+1,p=>1+(p.kids.map (cnt n)).sum
def v1P (okT:Tst->Bool) (okC:Cel->Bool) (okK:List Int->Bool):(n:Nat)->Pl n->Nat->Bool
 | 0,_,_=>false
 | n+1,p,deep=>decide (1<=deep)&&decide (j1R okT okC okK p.nd=some (p.kids.length,true))&&p.kids.all fun k=>v1P okT okC okK n k (deep - 1)
theorem k2Y {n:Nat} (p:Pl (n+1)):cnt (n+1) p=1+(p.kids.map (cnt n)).sum:=rfl
theorem x1M {okT:Tst->Bool} {okC:Cel->Bool} {okK:List Int->Bool} {n:Nat} {p:Pl (n+1)} {deep:Nat}:v1P okT okC okK (n+1) p deep=true<->1<=deep/\j1R okT okC okK p.nd=some (p.kids.length,true)/\∀ k∈p.kids,v1P okT okC okK n k (deep - 1)=true:=by
 show (decide (1<=deep)&&decide (j1R okT okC okK p.nd=some (p.kids.length,true))&&p.kids.all fun k=>v1P okT okC okK n k (deep - 1))=true<->_;simp [and_assoc]
theorem stepW_is (okT:Tst->Bool) (okC:Cel->Bool) (okK:List Int->Bool) (c:Nat) (d:Nd) (kn ar:Nat):j2Z okT okC okK c d kn ar=if c+1<=10/\ar<6/\j1R okT okC okK d=some (kn,true) then some (c+1) else none:=by
 unfold j2Z;by_cases h:c+1<=10/\ar<6
 ·
  rw [if_pos h];cases hk:j1R okT okC okK d with
  | none=>simp
  | some x=>
   obtain ⟨k,b⟩:=x;simp only [Option.bind_some,Option.some.injEq,Prod.mk.injEq];by_cases h2:kn=k/\b=true
   ·
    rw [if_pos h2,if_pos ⟨h.1,h.2,h2.1.symm,h2.2⟩]
   ·
    rw [if_neg h2,if_neg (fun x=>h2 ⟨x.2.2.1.symm,x.2.2.2⟩)]
 ·
  rw [if_neg h,if_neg (fun x=>h ⟨x.1,x.2.1⟩)]
theorem runPl_is (okT:Tst->Bool) (okC:Cel->Bool) (okK:List Int->Bool):∀ (n:Nat) (p:Pl n) (ar c:Nat),x2B (j2Z okT okC okK) n p ar c=if v1P okT okC okK n p (6 - ar)=true/\c+cnt n p<=10 then some (c+cnt n p) else none:=by
 intro n;induction n with
 | zero=>exact fun p ar c=>(if_neg (fun h=>by cases h.1)).symm
 | succ n ih=>
  intro p ar c;have hk:∀ (l:List (Pl n)) (ar c:Nat),c<=10->k1V (j2Z okT okC okK) n l ar (some c)=if (∀ k∈l,v1P okT okC okK n k (6 - ar)=true)/\c+(l.map (cnt n)).sum<=10 then some (c+(l.map (cnt n)).sum) else none:=by
   intro l;induction l with
   | nil=>intro ar c hc; rw [if_pos ⟨fun k hk=>(by cases hk),by simpa using hc⟩]; rfl
   | cons x l ihl=>
    intro ar c hc;show k1V _ n l ar (x2B _ n x ar c)=_;rw [ih x ar c];by_cases hx:v1P okT okC okK n x (6 - ar)=true/\c+cnt n x<=10
    ·
     rw [if_pos hx,ihl ar _ hx.2];simp only [List.forall_mem_cons,List.map_cons,List.sum_cons,hx.1,true_and,Nat.add_assoc]
    ·
     rw [if_neg hx,k1P,if_neg];rintro ⟨h1,h2⟩;simp only [List.map_cons,List.sum_cons] at h2;exact hx ⟨h1 x (List.mem_cons_self ..),by omega⟩
  rw [z2F,stepW_is];by_cases h:c+1<=10/\ar<6/\j1R okT okC okK p.nd=some (p.kids.length,true)
  ·
   rw [if_pos h,hk _ _ _ h.1];simp only [x1M,k2Y,h.2.2,true_and,Nat.sub_sub,Nat.add_assoc];congr 1;exact propext ⟨fun x=>⟨⟨by omega,x.1⟩,x.2⟩,fun x=>⟨x.1.2,x.2⟩⟩
  ·
   rw [if_neg h,k1P,if_neg];rintro ⟨h1,h2⟩;have h3:=x1M.1 h1;rw [k2Y] at h2;exact h ⟨by omega,by omega,h3.2.1⟩
theorem v5R {okT:Tst->Bool} {okC:Cel->Bool} {okK:List Int->Bool}:∀ (n:Nat) (p:Pl n) (d e:Nat),d<=e->v1P okT okC okK n p d=true->v1P okT okC okK n p e=true:=by
 intro n;induction n with
 | zero=>intro p d e _ h; cases h
 | succ n ih=>
  intro p d e hde h;have h:=x1M.1 h;exact x1M.2 ⟨by omega,h.2.1,fun k hk=>ih k _ _ (by omega) (h.2.2 k hk)⟩
def q3V (okT:Tst->Bool) (okC:Cel->Bool) (okK:List Int->Bool) (n:Nat) (p:Pl n):Bool:=v1P okT okC okK n p 6&&decide (cnt n p<=10)
theorem cnt_kid {n:Nat} {p:Pl (n+1)} {k:Pl n} (h:k∈p.kids):cnt n k<cnt (n+1) p:=by
 have hs:∀ l:List (Pl n),k∈l->cnt n k<=(l.map (cnt n)).sum:=by
  intro l;induction l with
  | nil=>intro h; cases h
  | cons x l ih=>
   intro h;rw [List.map_cons,List.sum_cons];rcases List.mem_cons.1 h with rfl | h
   ·
    omega
   ·
    have:=ih h; omega
 have:=hs _ h;rw [k2Y];omega
theorem canW_kid {okT:Tst->Bool} {okC:Cel->Bool} {okK:List Int->Bool} {n:Nat} {p:Pl (n+1)} {k:Pl n} (h:q3V okT okC okK (n+1) p=true) (hk:k∈p.kids):q3V okT okC okK n k=true:=by
 simp only [q3V,Bool.and_eq_true,decide_eq_true_eq] at h ⊢;exact ⟨v5R n k 5 6 (by decide) ((x1M.1 h.1).2.2 k hk),by have:=cnt_kid hk; omega⟩
def manyP (okT:Tst->Bool) (okC:Cel->Bool) (okK:List Int->Bool) (n:Nat) (p:Pl n):Nat:=if q3V okT okC okK n p then cnt n p else 0
theorem q5C (okT:Tst->Bool) (okC:Cel->Bool) (okK:List Int->Bool) (n:Nat) (p:Pl n):x2B (j2Z okT okC okK) n p 0 0=if q3V okT okC okK n p then some (cnt n p) else none:=by
 rw [runPl_is];simp [q3V]
end Go.Proofs.YtmjaepdplbgohaaGreatDoor.Kd
namespace Go.Proofs.YtmjaepdplbgohaaGreatDoor.Kd
open Go.RowKit
theorem j4P (n:Nat) (p:Pl (n+1)) (vc vk:Value) (da:Option Addr) (dc:Nat) (w:World) (hp:q1X (NodeAt n) w p.nd p.kids vc vk (.slice da p.kids.length dc)) (hz:Pl.sz (n+1) p<=1048576) (hn:n<=1048576) (pa:Addr) (hN:NoPlan w pa) (okT:Tst->Bool) (okC:Cel->Bool) (okK:List Int->Bool) (hO:z3C w okT okC okK) :
  Calls Tryz.prog 21 #[.agg (z1J p.nd vc vk (.slice da p.kids.length dc)).toArray] w fun e w'=>e = .returned (.int .i64 (manyP okT okC okK (n+1) p))/\Below w.heap.size w w':=by
 obtain ⟨_,ca,cc,rfl,_⟩:=id hp.1;obtain ⟨_,ka,kc,rfl,_⟩:=id hp.2.1;have hm:=fun w2 (hb:Below w.heap.size w w2)=>mustW n p _ _ da dc w2 (hp.below hb fun b o x h=>NodeAt.below n h hb) hz hn pa (hN.below hb) okT okC okK (hO.below hb);unfold manyP;have hr:=q5C okT okC okK (n+1) p;by_cases h:q3V okT okC okK (n+1) p=true
 ·
  rw [if_pos h] at hr ⊢;exact q6J p.nd ca ka _ cc _ kc _ _ w fun w2 hb=>(hm w2 hb).mono fun e w' x=>x.elim (fun ⟨c,h1,h2,h3⟩=>⟨by rw [hr] at h1; cases h1; exact h2,h3⟩) (fun ⟨h1,_⟩=>by rw [hr] at h1; cases h1)
 ·
  rw [if_neg h] at hr ⊢;exact q6K p.nd ca ka _ cc _ kc _ pa w fun w2 hb=>(hm w2 hb).mono fun e w' x=>x.elim (fun ⟨c,h1,h2,h3⟩=>by rw [hr] at h1; cases h1) (fun ⟨h1,h2,h3⟩=>⟨h2,h3⟩)
end Go.Proofs.YtmjaepdplbgohaaGreatDoor.Kd
