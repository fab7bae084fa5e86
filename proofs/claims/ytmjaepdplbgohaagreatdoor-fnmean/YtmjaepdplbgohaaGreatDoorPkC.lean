/- Part of the proof of laws.FnMean: Is, CellSpec, CellBox, LaidSent. -/
import Derived.Test.YtmjaepdplbgohaaGreatDoorPkA
import Derived.LaidEql
import Derived.Stop.LaidErr
import Derived.RowKitTokens
import Derived.Test.YtmjaepdplbgohaaGreatDoorPkB
set_option maxRecDepth 100000
set_option maxHeartbeats 16000000
set_option linter.unusedVariables false
set_option linter.unusedSimpArgs false
namespace Go.Proofs.YtmjaepdplbgohaaGreatDoor
open Go.RowKit Go.Extern
theorem isTypeOf (v:Value) (w:World):(callFunc 122 #[.iface 248 v]).run Tryz.prog w = .ok (.value (.iface 199 (.agg #[.pointer (some ⟨5,248,none⟩)]))) w:=by
 rw [@run_callFunc_extern Tryz.prog 122 _ Extern.ReflectliteType.typeOf Tryz.func122 (by kernel_rfl) (by kernel_rfl) (by kernel_rfl) (by kernel_rfl)];kernel_rfl
theorem x4G (w:World):(callFunc 240 #[.agg #[.pointer (some ⟨5,248,none⟩)]]).run Tryz.prog w = .ok (.value (.bool true)) w:=by
 rw [@run_callFunc_extern Tryz.prog 240 _ (Extern.ReflectliteType.method fun t=>do Extern.Rtype.noPackHeld "Comparable" t; pure (.bool (<-typeInfo t).comparable)) Tryz.func240 (by kernel_rfl) (by kernel_rfl) (by kernel_rfl) (by kernel_rfl)];kernel_rfl
theorem k2M (v:Value) (w:World):(Go.method 381 199 v "Comparable").run Tryz.prog w = .ok (240,v) w:=by kernel_rfl
theorem isComp:(Tryz.prog.info? 248).map (·.comparable)=some true:=by kernel_rfl
theorem isSize:(Tryz.prog.info? 270).map (·.size)=some 1:=by kernel_rfl
theorem z4V (a:Addr) (w:World) :
  Calls Tryz.prog 71 #[.iface 248 (.pointer (some a)),.iface 248 (.pointer (some a))] w fun e w'=>e = .returned (.bool true)/\w'=w:=by
 obtain ⟨i,hi,hcmp⟩:=Option.map_eq_some_iff.1 isComp;obtain ⟨j,hj,hjs⟩:=Option.map_eq_some_iff.1 isSize;have tT:=isTypeOf;have cT:=x4G;have mR:=k2M;have heq:=run_eql_iface_ptr_same (P:=Tryz.prog) w a Tryz.underlying100 Tryz.underlying248 hi hcmp hj;go_enter Tryz.func71,Tryz.ntmps71;go_wp2;refine wp_loop_rounds 1 ?_;rw [rounds_succ];go_wp2;go_ret;exact ⟨rfl,rfl⟩
theorem x2H (b:Addr) (w:World) :
  Calls Tryz.prog 71 #[.nilIface,.iface 248 (.pointer (some b))] w fun e w'=>e = .returned (.bool false)/\w'=w:=by
 have hn:=run_eql_iface_nil_left (P:=Tryz.prog) w 248 (.pointer (some b)) Tryz.underlying100;go_enter Tryz.func71,Tryz.ntmps71;go_wp2;go_ret;exact ⟨rfl,rfl⟩
def v1J (w:World) (a:Addr):Prop:=0<w.heap.size/\w.cell? ⟨0,0,none⟩=some (.iface 248 (.pointer (some a)))
theorem v1J.below {w w':World} {a:Addr} (h:v1J w a) (hb:Below w.heap.size w w'):v1J w' a:=
 ⟨Nat.lt_of_lt_of_le h.1 hb.size,(hb.cell (p:=⟨0,0,none⟩) h.1).trans h.2⟩
end Go.Proofs.YtmjaepdplbgohaaGreatDoor
namespace Go.Proofs.YtmjaepdplbgohaaGreatDoor
open Go.RowKit
theorem z1B {w:World} (o:Obj):Below w.heap.size w (w.alloc o):=(Below.refl _ _).alloc (Nat.le_refl _) _
theorem z1A {w a b:World} (h:Below w.heap.size w a) (k:Below a.heap.size a b):Below w.heap.size w b:=h.trans (k.mono h.size)
theorem v2C (w:World) (o:Obj):(w.alloc o).heap.size=w.heap.size+1:=World.size_alloc w o
theorem x4V {w w2:World} {v0 v1 v2 v3:Value} {t:TypeId} (h:Below (w.alloc (.cells #[v0,v1,v2,v3] t)).heap.size (w.alloc (.cells #[v0,v1,v2,v3] t)) w2) :
  w2.cell? ⟨w.heap.size,0,none⟩=some v0/\w2.cell? ⟨w.heap.size,1,none⟩=some v1/\w2.cell? ⟨w.heap.size,2,none⟩=some v2/\w2.cell? ⟨w.heap.size,3,none⟩=some v3:=by
 have hl:w.heap.size<(w.alloc (.cells #[v0,v1,v2,v3] t)).heap.size:=by rw [v2C]; omega
 refine ⟨(h.cell (p:=⟨w.heap.size,0,none⟩) hl).trans ?_,(h.cell (p:=⟨w.heap.size,1,none⟩) hl).trans ?_,(h.cell (p:=⟨w.heap.size,2,none⟩) hl).trans ?_,(h.cell (p:=⟨w.heap.size,3,none⟩) hl).trans ?_⟩ <;> simp [go_sem]
theorem x1E (n wide:Int) (w:World):Calls Tryz.prog 105 #[.int .i64 n,.int .i64 wide] w fun e w'=>e = .returned (.bool (z2U n wide))/\w'=w:=by
 by_cases h1:0<=n
 ·
  by_cases h2:n<wide
  ·
   by_cases h3:n<6
   ·
    go_enter Tryz.func105,Tryz.ntmps105;go_wp2;go_ret;exact ⟨z1N (by simp [z2U]; omega),rfl⟩
   ·
    go_enter Tryz.func105,Tryz.ntmps105;go_wp2;go_ret;exact ⟨z1N (by simp [z2U]; omega),rfl⟩
  ·
   go_enter Tryz.func105,Tryz.ntmps105;go_wp2;go_ret;exact ⟨z1N (by simp [z2U]; omega),rfl⟩
 ·
  go_enter Tryz.func105,Tryz.ntmps105;go_wp2;go_ret;exact ⟨z1N (by simp [z2U]; omega),rfl⟩
theorem k2X {n wide:Int}:z2U n wide=true<->0<=n/\n<wide/\n<6:=by simp [z2U]
theorem z3T {n wide:Int}:z2U n wide=false<->¬ (0<=n/\n<wide/\n<6):=by simp [z2U]
theorem v3X {c:Cel} {wide:Int} (h:(c.k=1/\(0<=c.a/\c.a<wide/\c.a<6)/\c.b=0/\c.n=0)\/(c.k=2/\c.a=0/\c.b=0/\-1000000000<=c.n/\c.n<=1000000000) ∨
  (c.k=3/\(0<=c.a/\c.a<wide/\c.a<6)/\(0<=c.b/\c.b<wide/\c.b<6)/\c.n=0)):c.okB wide=true:=decide_eq_true h
theorem k2I {c:Cel} {wide:Int} (h:¬ ((c.k=1/\(0<=c.a/\c.a<wide/\c.a<6)/\c.b=0/\c.n=0)\/(c.k=2/\c.a=0/\c.b=0/\-1000000000<=c.n/\c.n<=1000000000) ∨
  (c.k=3/\(0<=c.a/\c.a<wide/\c.a<6)/\(0<=c.b/\c.b<wide/\c.b<6)/\c.n=0))):c.okB wide=false:=decide_eq_false h
theorem ok1_col (k a b n wide:Int) (w:World) (h1:k=1) (ha:z2U a wide=false) :
  Calls Tryz.prog 147 #[.agg #[.int .i64 k,.int .i64 a,.int .i64 b,.int .i64 n],.int .i64 wide] w fun e w'=>e = .returned (.bool false)/\Below w.heap.size w w':=by
 go_enter Tryz.func147,Tryz.ntmps147;go_wp2_with (first | (go_at_call 105; refine (x1E _ _ _).mono ?_; rintro e w' ⟨rfl,rfl⟩) | (go_at_call 118; refine (q1U _ _).mono ?_; rintro e w' ⟨rfl,rfl⟩));go_ret;exact ⟨rfl,z1B _⟩
theorem ok1_b (k a b n wide:Int) (w:World) (h1:k=1) (ha:z2U a wide=true) (hb:(b==0)=false) :
  Calls Tryz.prog 147 #[.agg #[.int .i64 k,.int .i64 a,.int .i64 b,.int .i64 n],.int .i64 wide] w fun e w'=>e = .returned (.bool false)/\Below w.heap.size w w':=by
 go_enter Tryz.func147,Tryz.ntmps147;go_wp2_with (first | (go_at_call 105; refine (x1E _ _ _).mono ?_; rintro e w' ⟨rfl,rfl⟩) | (go_at_call 118; refine (q1U _ _).mono ?_; rintro e w' ⟨rfl,rfl⟩));go_ret;exact ⟨rfl,z1B _⟩
theorem ok1_n (k a b n wide:Int) (w:World) (h1:k=1) (ha:z2U a wide=true) (hb:(b==0)=true) :
  Calls Tryz.prog 147 #[.agg #[.int .i64 k,.int .i64 a,.int .i64 b,.int .i64 n],.int .i64 wide] w fun e w'=>e = .returned (.bool (n==0))/\Below w.heap.size w w':=by
 go_enter Tryz.func147,Tryz.ntmps147;go_wp2_with (first | (go_at_call 105; refine (x1E _ _ _).mono ?_; rintro e w' ⟨rfl,rfl⟩) | (go_at_call 118; refine (q1U _ _).mono ?_; rintro e w' ⟨rfl,rfl⟩));go_ret;exact ⟨rfl,z1B _⟩
theorem ok2_a (k a b n wide:Int) (w:World) (h1:k=2) (ha:(a==0)=false) :
  Calls Tryz.prog 147 #[.agg #[.int .i64 k,.int .i64 a,.int .i64 b,.int .i64 n],.int .i64 wide] w fun e w'=>e = .returned (.bool false)/\Below w.heap.size w w':=by
 go_enter Tryz.func147,Tryz.ntmps147;go_wp2_with (first | (go_at_call 105; refine (x1E _ _ _).mono ?_; rintro e w' ⟨rfl,rfl⟩) | (go_at_call 118; refine (q1U _ _).mono ?_; rintro e w' ⟨rfl,rfl⟩));go_ret;exact ⟨rfl,z1B _⟩
theorem ok2_b (k a b n wide:Int) (w:World) (h1:k=2) (ha:(a==0)=true) (hb:(b==0)=false) :
  Calls Tryz.prog 147 #[.agg #[.int .i64 k,.int .i64 a,.int .i64 b,.int .i64 n],.int .i64 wide] w fun e w'=>e = .returned (.bool false)/\Below w.heap.size w w':=by
 go_enter Tryz.func147,Tryz.ntmps147;go_wp2_with (first | (go_at_call 105; refine (x1E _ _ _).mono ?_; rintro e w' ⟨rfl,rfl⟩) | (go_at_call 118; refine (q1U _ _).mono ?_; rintro e w' ⟨rfl,rfl⟩));go_ret;exact ⟨rfl,z1B _⟩
theorem ok2_n (k a b n wide:Int) (w:World) (h1:k=2) (ha:(a==0)=true) (hb:(b==0)=true) :
  Calls Tryz.prog 147 #[.agg #[.int .i64 k,.int .i64 a,.int .i64 b,.int .i64 n],.int .i64 wide] w fun e w'=>e = .returned (.bool (q1W n))/\Below w.heap.size w w':=by
 go_enter Tryz.func147,Tryz.ntmps147;go_wp2_with (first | (go_at_call 105; refine (x1E _ _ _).mono ?_; rintro e w' ⟨rfl,rfl⟩) | (go_at_call 118; refine (q1U _ _).mono ?_; rintro e w' ⟨rfl,rfl⟩));go_ret;exact ⟨rfl,z1B _⟩
theorem ok3_a (k a b n wide:Int) (w:World) (h1:k=3) (ha:z2U a wide=false) :
  Calls Tryz.prog 147 #[.agg #[.int .i64 k,.int .i64 a,.int .i64 b,.int .i64 n],.int .i64 wide] w fun e w'=>e = .returned (.bool false)/\Below w.heap.size w w':=by
 go_enter Tryz.func147,Tryz.ntmps147;go_wp2_with (first | (go_at_call 105; refine (x1E _ _ _).mono ?_; rintro e w' ⟨rfl,rfl⟩) | (go_at_call 118; refine (q1U _ _).mono ?_; rintro e w' ⟨rfl,rfl⟩));go_ret;exact ⟨rfl,z1B _⟩
theorem ok3_b (k a b n wide:Int) (w:World) (h1:k=3) (ha:z2U a wide=true) (hb:z2U b wide=false) :
  Calls Tryz.prog 147 #[.agg #[.int .i64 k,.int .i64 a,.int .i64 b,.int .i64 n],.int .i64 wide] w fun e w'=>e = .returned (.bool false)/\Below w.heap.size w w':=by
 go_enter Tryz.func147,Tryz.ntmps147;go_wp2_with (first | (go_at_call 105; refine (x1E _ _ _).mono ?_; rintro e w' ⟨rfl,rfl⟩) | (go_at_call 118; refine (q1U _ _).mono ?_; rintro e w' ⟨rfl,rfl⟩));go_ret;exact ⟨rfl,z1B _⟩
theorem ok3_n (k a b n wide:Int) (w:World) (h1:k=3) (ha:z2U a wide=true) (hb:z2U b wide=true) :
  Calls Tryz.prog 147 #[.agg #[.int .i64 k,.int .i64 a,.int .i64 b,.int .i64 n],.int .i64 wide] w fun e w'=>e = .returned (.bool (n==0))/\Below w.heap.size w w':=by
 go_enter Tryz.func147,Tryz.ntmps147;go_wp2_with (first | (go_at_call 105; refine (x1E _ _ _).mono ?_; rintro e w' ⟨rfl,rfl⟩) | (go_at_call 118; refine (q1U _ _).mono ?_; rintro e w' ⟨rfl,rfl⟩));go_ret;exact ⟨rfl,z1B _⟩
theorem ok_none (k a b n wide:Int) (w:World) (h1:(k==1)=false) (h2:(k==2)=false) (h3:(k==3)=false) :
  Calls Tryz.prog 147 #[.agg #[.int .i64 k,.int .i64 a,.int .i64 b,.int .i64 n],.int .i64 wide] w fun e w'=>e = .returned (.bool false)/\Below w.heap.size w w':=by
 go_enter Tryz.func147,Tryz.ntmps147;go_wp2_with (first | (go_at_call 105; refine (x1E _ _ _).mono ?_; rintro e w' ⟨rfl,rfl⟩) | (go_at_call 118; refine (q1U _ _).mono ?_; rintro e w' ⟨rfl,rfl⟩));go_ret;exact ⟨rfl,z1B _⟩
theorem q1A (c:Cel) (wide:Int) (w:World) :
  Calls Tryz.prog 147 #[.agg #[.int .i64 c.k,.int .i64 c.a,.int .i64 c.b,.int .i64 c.n],.int .i64 wide] w fun e w'=>e = .returned (.bool (c.okB wide))/\Below w.heap.size w w':=by
 obtain ⟨k,a,b,n⟩:=c;by_cases h1:k=1
 ·
  cases ha:z2U a wide
  ·
   rw [k2I (by rw [z3T] at ha; simp only; omega)];exact ok1_col k a b n wide w h1 ha
  ·
   by_cases hb:b=0
   ·
    refine (ok1_n k a b n wide w h1 ha (by simpa using hb)).mono fun e w' ⟨he,hw⟩=>⟨he.trans (z1N ?_),hw⟩;rw [k2X] at ha;by_cases hn:n=0
    ·
     rw [v3X (by simp only; omega)]; simpa using hn
    ·
     rw [k2I (by simp only; omega)]; simpa using hn
   ·
    rw [k2I (by simp only; omega)];exact ok1_b k a b n wide w h1 ha (by simpa using hb)
 ·
  by_cases h2:k=2
  ·
   by_cases ha:a=0
   ·
    by_cases hb:b=0
    ·
     refine (ok2_n k a b n wide w h2 (by simpa using ha) (by simpa using hb)).mono fun e w' ⟨he,hw⟩=>⟨he.trans (z1N ?_),hw⟩;cases hn:q1W n
     ·
      rw [k2I (by simp [q1W] at hn; simp only; omega)]
     ·
      rw [v3X (by rw [q2X] at hn; simp only; omega)]
    ·
     rw [k2I (by simp only; omega)];exact ok2_b k a b n wide w h2 (by simpa using ha) (by simpa using hb)
   ·
    rw [k2I (by simp only; omega)];exact ok2_a k a b n wide w h2 (by simpa using ha)
  ·
   by_cases h3:k=3
   ·
    cases ha:z2U a wide
    ·
     rw [k2I (by rw [z3T] at ha; simp only; omega)];exact ok3_a k a b n wide w h3 ha
    ·
     cases hb:z2U b wide
     ·
      rw [k2I (by rw [z3T] at hb; simp only; omega)];exact ok3_b k a b n wide w h3 ha hb
     ·
      refine (ok3_n k a b n wide w h3 ha hb).mono fun e w' ⟨he,hw⟩=>⟨he.trans (z1N ?_),hw⟩;rw [k2X] at ha hb;by_cases hn:n=0
      ·
       rw [v3X (by simp only; omega)]; simpa using hn
      ·
       rw [k2I (by simp only; omega)]; simpa using hn
   ·
    rw [k2I (by simp only; omega)];exact ok_none k a b n wide w (by simpa using h1) (by simpa using h2) (by simpa using h3)
theorem j5V (c:Cel) (v:Value) (xs:List Int) (w:World) (hx:z1E w v xs) (hr:z1R xs=false) :
  Calls Tryz.prog 150 #[.agg #[.int .i64 c.k,.int .i64 c.a,.int .i64 c.b,.int .i64 c.n],v] w fun e w'=>e = .returned (.tuple #[.int .i64 0,.bool false])/\Below w.heap.size w w':=by
 obtain ⟨k,a,b,n⟩:=c;simp only at *;obtain ⟨s0,len,cap,rfl,hlen⟩:∃ s0 len cap,v = .slice s0 len cap/\len=xs.length:=by
  obtain ⟨_,s0,cap,hv,_⟩:=hx;exact ⟨s0,_,cap,hv,rfl⟩
 have HL:Hid (len=xs.length):=hlen;clear hlen;go_enter Tryz.func150,Tryz.ntmps150;go_wp2_with fail;refine (q1B _ xs _ (hx.below (z1B _))).mono ?_;rintro e w1 ⟨rfl,rfl⟩;go_wp2;go_ret2;exact ⟨rfl,z1B _⟩
theorem k5U (c:Cel) (v:Value) (xs:List Int) (w:World) (hx:z1E w v xs) (hr:z1R xs=true) (hk:c.okB xs.length=false) :
  Calls Tryz.prog 150 #[.agg #[.int .i64 c.k,.int .i64 c.a,.int .i64 c.b,.int .i64 c.n],v] w fun e w'=>e = .returned (.tuple #[.int .i64 0,.bool false])/\Below w.heap.size w w':=by
 obtain ⟨k,a,b,n⟩:=c;simp only at *;obtain ⟨s0,len,cap,rfl,hlen⟩:∃ s0 len cap,v = .slice s0 len cap/\len=xs.length:=by
  obtain ⟨_,s0,cap,hv,_⟩:=hx;exact ⟨s0,_,cap,hv,rfl⟩
 have HL:Hid (len=xs.length):=hlen;clear hlen;go_enter Tryz.func150,Tryz.ntmps150;go_wp2_with fail;refine (q1B _ xs _ (hx.below (z1B _))).mono ?_;rintro e w1 ⟨rfl,rfl⟩;go_wp2_with fail;refine (q1A ⟨k,a,b,n⟩ _ _).mono ?_;rintro e w2 ⟨rfl,hb2⟩;rw [HL.out];have HB:Hid (Below w.heap.size w w2):=z1A (z1B _) hb2;obtain ⟨c0,c1,c2,c3⟩:=x4V hb2;clear hb2;go_wp2;go_ret2;exact ⟨rfl,HB.out⟩
theorem specOf_1 (c:Cel) (v:Value) (xs:List Int) (w:World) (hx:z1E w v xs) (hk1:c.k=1) (ha:0<=c.a/\c.a<xs.length)(hr:z1R xs=true) (hk:c.okB xs.length=true) (hcb:q1W (xs.getD c.a.toNat 0)=true) :
  Calls Tryz.prog 150 #[.agg #[.int .i64 c.k,.int .i64 c.a,.int .i64 c.b,.int .i64 c.n],v] w fun e w'=>e = .returned (.tuple #[.int .i64 (xs.getD c.a.toNat 0),.bool true])/\Below w.heap.size w w':=by
 obtain ⟨k,a,b,n⟩:=c;simp only at *;subst hk1;obtain ⟨g,off,cap,hpos,hlim,rfl,hbw,hc⟩:=(hx.cases).resolve_left (by rintro ⟨a0,cap0,rfl,_⟩; simp [z1R] at hr);obtain ⟨len,HL⟩:∃ len,Hid (len=xs.length):=⟨_,Eq.refl _⟩;have hcel:∀ w2:World,Below w.heap.size w w2->∀ j,j<len->w2.cell? ⟨g,off+j,none⟩=some (.int .i64 (xs.getD j 0)):=fun w2 h j hj=>(h.cell (p:=⟨g,off+j,none⟩) hbw).trans (hc j (by rw [<-HL.out]; exact hj));rw [<-HL.out] at hpos hlim ⊢;rw [<-HL.out] at hk ha;clear hc;have HX:Hid (z1E w (.slice (some ⟨g,off,none⟩) len cap) xs):=by rw [HL.out]; exact hx
 clear hx;obtain ⟨ja,rfl⟩:∃ ja:Nat,a=ja:=⟨a.toNat,by omega⟩;have hja:ja<len:=by omega
 rw [Int.toNat_natCast] at hcb;obtain ⟨x,HXA⟩:∃ x,Hid (x=xs.getD ja 0):=⟨_,Eq.refl _⟩;rw [<-HXA.out] at hcb;rw [Int.toNat_natCast,<-HXA.out];go_enter Tryz.func150,Tryz.ntmps150;go_wp2_with fail;refine (q1B _ xs _ (HX.out.below (z1B _))).mono ?_;rintro e w1 ⟨rfl,rfl⟩;go_wp2_with fail;refine (q1A ⟨1,ja,b,n⟩ _ _).mono ?_;rintro e w2 ⟨rfl,hb2⟩;have HB:Hid (Below w.heap.size w w2):=z1A (z1B _) hb2;obtain ⟨c0,c1,c2,c3⟩:=x4V hb2;clear hb2;have d0:=hcel w2 HB.out ja hja;rw [<-HXA.out] at d0;clear hcel;go_wp2_with fail;refine (q1U _ _).mono ?_;rintro e w3 ⟨rfl,rfl⟩;go_wp2;go_ret2;exact ⟨rfl,HB.out⟩
theorem specOf_2 (c:Cel) (v:Value) (xs:List Int) (w:World) (hx:z1E w v xs) (hk1:c.k=2)(hr:z1R xs=true) (hk:c.okB xs.length=true) (hcb:q1W c.n=true) :
  Calls Tryz.prog 150 #[.agg #[.int .i64 c.k,.int .i64 c.a,.int .i64 c.b,.int .i64 c.n],v] w fun e w'=>e = .returned (.tuple #[.int .i64 c.n,.bool true])/\Below w.heap.size w w':=by
 obtain ⟨k,a,b,n⟩:=c;simp only at *;subst hk1;obtain ⟨g,off,cap,hpos,hlim,rfl,hbw,hc⟩:=(hx.cases).resolve_left (by rintro ⟨a0,cap0,rfl,_⟩; simp [z1R] at hr);obtain ⟨len,HL⟩:∃ len,Hid (len=xs.length):=⟨_,Eq.refl _⟩;have hcel:∀ w2:World,Below w.heap.size w w2->∀ j,j<len->w2.cell? ⟨g,off+j,none⟩=some (.int .i64 (xs.getD j 0)):=fun w2 h j hj=>(h.cell (p:=⟨g,off+j,none⟩) hbw).trans (hc j (by rw [<-HL.out]; exact hj));rw [<-HL.out] at hpos hlim ⊢;rw [<-HL.out] at hk;clear hc;have HX:Hid (z1E w (.slice (some ⟨g,off,none⟩) len cap) xs):=by rw [HL.out]; exact hx
 clear hx;go_enter Tryz.func150,Tryz.ntmps150;go_wp2_with fail;refine (q1B _ xs _ (HX.out.below (z1B _))).mono ?_;rintro e w1 ⟨rfl,rfl⟩;go_wp2_with fail;refine (q1A ⟨2,a,b,n⟩ _ _).mono ?_;rintro e w2 ⟨rfl,hb2⟩;have HB:Hid (Below w.heap.size w w2):=z1A (z1B _) hb2;obtain ⟨c0,c1,c2,c3⟩:=x4V hb2;clear hb2;clear hcel;go_wp2_with fail;refine (q1U _ _).mono ?_;rintro e w3 ⟨rfl,rfl⟩;go_wp2;go_ret2;exact ⟨rfl,HB.out⟩
theorem specOf_3 (c:Cel) (v:Value) (xs:List Int) (w:World) (hx:z1E w v xs) (hk1:c.k=3) (ha:0<=c.a/\c.a<xs.length) (hb:0<=c.b/\c.b<xs.length) (hx2 : -1000000000<=xs.getD c.a.toNat 0/\xs.getD c.a.toNat 0<=1000000000) (hy2 : -1000000000<=xs.getD c.b.toNat 0/\xs.getD c.b.toNat 0<=1000000000)(hr:z1R xs=true) (hk:c.okB xs.length=true) (hcb:q1W (xs.getD c.a.toNat 0+xs.getD c.b.toNat 0)=true) :
  Calls Tryz.prog 150 #[.agg #[.int .i64 c.k,.int .i64 c.a,.int .i64 c.b,.int .i64 c.n],v] w fun e w'=>e = .returned (.tuple #[.int .i64 (xs.getD c.a.toNat 0+xs.getD c.b.toNat 0),.bool true])/\Below w.heap.size w w':=by
 obtain ⟨k,a,b,n⟩:=c;simp only at *;subst hk1;obtain ⟨g,off,cap,hpos,hlim,rfl,hbw,hc⟩:=(hx.cases).resolve_left (by rintro ⟨a0,cap0,rfl,_⟩; simp [z1R] at hr);obtain ⟨len,HL⟩:∃ len,Hid (len=xs.length):=⟨_,Eq.refl _⟩;have hcel:∀ w2:World,Below w.heap.size w w2->∀ j,j<len->w2.cell? ⟨g,off+j,none⟩=some (.int .i64 (xs.getD j 0)):=fun w2 h j hj=>(h.cell (p:=⟨g,off+j,none⟩) hbw).trans (hc j (by rw [<-HL.out]; exact hj));rw [<-HL.out] at hpos hlim ⊢;rw [<-HL.out] at hk ha hb;clear hc;have HX:Hid (z1E w (.slice (some ⟨g,off,none⟩) len cap) xs):=by rw [HL.out]; exact hx
 clear hx;obtain ⟨ja,rfl⟩:∃ ja:Nat,a=ja:=⟨a.toNat,by omega⟩;obtain ⟨jb,rfl⟩:∃ jb:Nat,b=jb:=⟨b.toNat,by omega⟩;have hja:ja<len:=by omega
 have hjb:jb<len:=by omega
 simp only [Int.toNat_natCast] at hcb hx2 hy2 ⊢;obtain ⟨x,HXA⟩:∃ x,Hid (x=xs.getD ja 0):=⟨_,Eq.refl _⟩;obtain ⟨y,HXB⟩:∃ y,Hid (y=xs.getD jb 0):=⟨_,Eq.refl _⟩;rw [<-HXA.out] at hcb hx2;rw [<-HXB.out] at hcb hy2;try rw [<-HXA.out,<-HXB.out]
 have hwr:IntKind.i64.wrap (x+y)=x+y:=by unfold IntKind.wrap; simp [IntKind.bits,IntKind.signed]; omega
 go_enter Tryz.func150,Tryz.ntmps150;go_wp2_with fail;refine (q1B _ xs _ (HX.out.below (z1B _))).mono ?_;rintro e w1 ⟨rfl,rfl⟩;go_wp2_with fail;refine (q1A ⟨3,ja,jb,n⟩ _ _).mono ?_;rintro e w2 ⟨rfl,hb2⟩;have HB:Hid (Below w.heap.size w w2):=z1A (z1B _) hb2;obtain ⟨c0,c1,c2,c3⟩:=x4V hb2;clear hb2;have d0:=hcel w2 HB.out ja hja;rw [<-HXA.out] at d0;have d1:=hcel w2 HB.out jb hjb;rw [<-HXB.out] at d1;clear hcel;go_wp2_with fail;go_quiet (fail)
 go_wp2_with fail;refine (q1U _ _).mono ?_;rintro e w3 ⟨rfl,rfl⟩;go_wp2;go_ret2;exact ⟨rfl,below_drewN HB.out _⟩
theorem j5W (c:Cel) (v:Value) (xs:List Int) (w:World) (hx:z1E w v xs) (hk1:c.k=3) (ha:0<=c.a/\c.a<xs.length) (hb:0<=c.b/\c.b<xs.length) (hx2 : -1000000000<=xs.getD c.a.toNat 0/\xs.getD c.a.toNat 0<=1000000000) (hy2 : -1000000000<=xs.getD c.b.toNat 0/\xs.getD c.b.toNat 0<=1000000000)(hr:z1R xs=true) (hk:c.okB xs.length=true) (hcb:q1W (xs.getD c.a.toNat 0+xs.getD c.b.toNat 0)=false) :
  Calls Tryz.prog 150 #[.agg #[.int .i64 c.k,.int .i64 c.a,.int .i64 c.b,.int .i64 c.n],v] w fun e w'=>e = .returned (.tuple #[.int .i64 0,.bool false])/\Below w.heap.size w w':=by
 obtain ⟨k,a,b,n⟩:=c;simp only at *;subst hk1;obtain ⟨g,off,cap,hpos,hlim,rfl,hbw,hc⟩:=(hx.cases).resolve_left (by rintro ⟨a0,cap0,rfl,_⟩; simp [z1R] at hr);obtain ⟨len,HL⟩:∃ len,Hid (len=xs.length):=⟨_,Eq.refl _⟩;have hcel:∀ w2:World,Below w.heap.size w w2->∀ j,j<len->w2.cell? ⟨g,off+j,none⟩=some (.int .i64 (xs.getD j 0)):=fun w2 h j hj=>(h.cell (p:=⟨g,off+j,none⟩) hbw).trans (hc j (by rw [<-HL.out]; exact hj));rw [<-HL.out] at hpos hlim ⊢;rw [<-HL.out] at hk ha hb;clear hc;have HX:Hid (z1E w (.slice (some ⟨g,off,none⟩) len cap) xs):=by rw [HL.out]; exact hx
 clear hx;obtain ⟨ja,rfl⟩:∃ ja:Nat,a=ja:=⟨a.toNat,by omega⟩;obtain ⟨jb,rfl⟩:∃ jb:Nat,b=jb:=⟨b.toNat,by omega⟩;have hja:ja<len:=by omega
 have hjb:jb<len:=by omega
 simp only [Int.toNat_natCast] at hcb hx2 hy2 ⊢;obtain ⟨x,HXA⟩:∃ x,Hid (x=xs.getD ja 0):=⟨_,Eq.refl _⟩;obtain ⟨y,HXB⟩:∃ y,Hid (y=xs.getD jb 0):=⟨_,Eq.refl _⟩;rw [<-HXA.out] at hcb hx2;rw [<-HXB.out] at hcb hy2;try rw [<-HXA.out,<-HXB.out]
 have hwr:IntKind.i64.wrap (x+y)=x+y:=by unfold IntKind.wrap; simp [IntKind.bits,IntKind.signed]; omega
 go_enter Tryz.func150,Tryz.ntmps150;go_wp2_with fail;refine (q1B _ xs _ (HX.out.below (z1B _))).mono ?_;rintro e w1 ⟨rfl,rfl⟩;go_wp2_with fail;refine (q1A ⟨3,ja,jb,n⟩ _ _).mono ?_;rintro e w2 ⟨rfl,hb2⟩;have HB:Hid (Below w.heap.size w w2):=z1A (z1B _) hb2;obtain ⟨c0,c1,c2,c3⟩:=x4V hb2;clear hb2;have d0:=hcel w2 HB.out ja hja;rw [<-HXA.out] at d0;have d1:=hcel w2 HB.out jb hjb;rw [<-HXB.out] at d1;clear hcel;go_wp2_with fail;go_quiet (fail)
 go_wp2_with fail;refine (q1U _ _).mono ?_;rintro e w3 ⟨rfl,rfl⟩;go_wp2;go_ret2;exact ⟨rfl,below_drewN HB.out _⟩
theorem ok_iff {c:Cel} {wide:Int}:c.okB wide=true<->((c.k=1/\(0<=c.a/\c.a<wide/\c.a<6)/\c.b=0/\c.n=0)\/(c.k=2/\c.a=0/\c.b=0/\-1000000000<=c.n/\c.n<=1000000000) ∨
  (c.k=3/\(0<=c.a/\c.a<wide/\c.a<6)/\(0<=c.b/\c.b<wide/\c.b<6)/\c.n=0)):=by simp only [Cel.okB,decide_eq_true_eq]
theorem z1U (c:Cel) (v:Value) (xs:List Int) (w:World) (hx:z1E w v xs) :
  Calls Tryz.prog 150 #[.agg #[.int .i64 c.k,.int .i64 c.a,.int .i64 c.b,.int .i64 c.n],v] w fun e w'=>e = .returned (.tuple #[.int .i64 (c.valI xs),.bool (c.toldB xs)])/\Below w.heap.size w w':=by
 cases hr:z1R xs
 ·
  have h1:c.toldB xs=false:=by simp [Cel.toldB,hr]
  have h2:c.valI xs=0:=by simp [Cel.valI,h1]
  rw [h1,h2];exact j5V c v xs w hx hr
 ·
  cases hk:c.okB xs.length
  ·
   have h1:c.toldB xs=false:=by simp [Cel.toldB,hk]
   have h2:c.valI xs=0:=by simp [Cel.valI,h1]
   rw [h1,h2];exact k5U c v xs w hx hr hk
  ·
   rcases ok_iff.1 hk with ⟨k1,ha,hb,hn⟩ | ⟨k2,ha,hb,hn⟩ | ⟨k3,ha,hb,hn⟩
   ·
    have hu:c.num xs=xs.getD c.a.toNat 0:=by simp [Cel.num,k1]
    have hf:=q2X.2 (x2S hr (j:=c.a.toNat) (by omega));have h1:c.toldB xs=true:=by unfold Cel.toldB; rw [hr,hk,hu,hf]; rfl
    have h2:c.valI xs=xs.getD c.a.toNat 0:=by rw [Cel.valI,if_pos h1,hu]
    rw [h1,h2];exact specOf_1 c v xs w hx k1 (by omega) hr hk hf
   ·
    have hu:c.num xs=c.n:=by simp [Cel.num,k2]
    have hf:=q2X.2 hn;have h1:c.toldB xs=true:=by unfold Cel.toldB; rw [hr,hk,hu,hf]; rfl
    have h2:c.valI xs=c.n:=by rw [Cel.valI,if_pos h1,hu]
    rw [h1,h2];exact specOf_2 c v xs w hx k2 hr hk hf
   ·
    have hu:c.num xs=xs.getD c.a.toNat 0+xs.getD c.b.toNat 0:=by simp [Cel.num,k3]
    have ra:=x2S hr (j:=c.a.toNat) (by omega);have rb:=x2S hr (j:=c.b.toNat) (by omega);cases hf:q1W (xs.getD c.a.toNat 0+xs.getD c.b.toNat 0)
    ·
     have h1:c.toldB xs=false:=by unfold Cel.toldB; rw [hu,hf,Bool.and_false]
     have h2:c.valI xs=0:=by simp [Cel.valI,h1]
     rw [h1,h2];exact j5W c v xs w hx k3 (by omega) (by omega) ra rb hr hk hf
    ·
     have h1:c.toldB xs=true:=by unfold Cel.toldB; rw [hr,hk,hu,hf]; rfl
     have h2:c.valI xs=xs.getD c.a.toNat 0+xs.getD c.b.toNat 0:=by rw [Cel.valI,if_pos h1,hu]
     rw [h1,h2];exact specOf_3 c v xs w hx k3 (by omega) (by omega) ra rb hr hk hf
def Box4 (w:World) (g:Nat) (c:Cel):Prop:=
 g<w.heap.size/\w.cell? ⟨g,0,none⟩=some (.int .i64 c.k)/\w.cell? ⟨g,1,none⟩=some (.int .i64 c.a)/\w.cell? ⟨g,2,none⟩=some (.int .i64 c.b)/\w.cell? ⟨g,3,none⟩=some (.int .i64 c.n)
theorem Box4.start (w:World) (c:Cel) (t:TypeId):Box4 (w.alloc (.cells #[.int .i64 c.k,.int .i64 c.a,.int .i64 c.b,.int .i64 c.n] t)) w.heap.size c:=by
 refine ⟨by rw [v2C]; omega,?_,?_,?_,?_⟩ <;> simp [go_sem]
def q1K (w:World) (g:Nat) (t:Tst):Prop:=
 g<w.heap.size/\w.cell? ⟨g,0,none⟩=some (.int .i64 t.k)/\w.cell? ⟨g,1,none⟩=some (.bool t.no) ∧
 (w.cell? ⟨g,2,none⟩=some (.int .i64 t.l.k)/\w.cell? ⟨g,3,none⟩=some (.int .i64 t.l.a)/\w.cell? ⟨g,4,none⟩=some (.int .i64 t.l.b)/\w.cell? ⟨g,5,none⟩=some (.int .i64 t.l.n)) ∧
 (w.cell? ⟨g,6,none⟩=some (.int .i64 t.r.k)/\w.cell? ⟨g,7,none⟩=some (.int .i64 t.r.a)/\w.cell? ⟨g,8,none⟩=some (.int .i64 t.r.b)/\w.cell? ⟨g,9,none⟩=some (.int .i64 t.r.n))
theorem q1K.below {w w':World} {g:Nat} {t:Tst} (h:q1K w g t) (hb:Below w.heap.size w w'):q1K w' g t:=by
 obtain ⟨hl,c0,c1,⟨c2,c3,c4,c5⟩,c6,c7,c8,c9⟩:=h;have k:∀ o,w'.cell? ⟨g,o,none⟩=w.cell? ⟨g,o,none⟩:=fun o=>hb.cell (p:=⟨g,o,none⟩) hl;exact ⟨Nat.lt_of_lt_of_le hl hb.size,(k 0).trans c0,(k 1).trans c1,⟨(k 2).trans c2,(k 3).trans c3,(k 4).trans c4,(k 5).trans c5⟩,(k 6).trans c6,(k 7).trans c7,(k 8).trans c8,(k 9).trans c9⟩
theorem q1K.start (w:World) (t:Tst) (u:TypeId):q1K (w.alloc (.cells (t10 t).toArray u)) w.heap.size t:=by
 refine ⟨by rw [v2C]; omega,?_,?_,⟨?_,?_,?_,?_⟩,?_,?_,?_,?_⟩ <;> simp [go_sem]
theorem alloc_at (w:World) (o:Obj):(w.alloc o).heap[w.heap.size]? = some o:=by show (w.heap.push o)[w.heap.size]? = some o; simp
theorem j1U {w:World} {b:Nat} {v0 v1 v2 v3:Value} {t:TypeId} (h:w.heap[b]? = some (.cells #[v0,v1,v2,v3] t)) :
  w.cell? ⟨b,0,none⟩=some v0/\w.cell? ⟨b,1,none⟩=some v1/\w.cell? ⟨b,2,none⟩=some v2/\w.cell? ⟨b,3,none⟩=some v3 ∧
  w.frozen? ⟨b,0,none⟩=false/\w.frozen? ⟨b,1,none⟩=false/\w.frozen? ⟨b,2,none⟩=false/\w.frozen? ⟨b,3,none⟩=false:=by
 simp [World.cell?,World.frozen?,h]
theorem k5M {w:World} {b:Nat} {v0 v1 v2 v3 v4 v5 v6 v7 v8 v9:Value} {t:TypeId} (h:w.heap[b]? = some (.cells #[v0,v1,v2,v3,v4,v5,v6,v7,v8,v9] t)) :
  (w.cell? ⟨b,0,none⟩=some v0/\w.cell? ⟨b,1,none⟩=some v1/\w.cell? ⟨b,2,none⟩=some v2/\w.cell? ⟨b,3,none⟩=some v3/\w.cell? ⟨b,4,none⟩=some v4/\w.cell? ⟨b,5,none⟩=some v5/\w.cell? ⟨b,6,none⟩=some v6/\w.cell? ⟨b,7,none⟩=some v7/\w.cell? ⟨b,8,none⟩=some v8/\w.cell? ⟨b,9,none⟩=some v9) ∧
  (w.frozen? ⟨b,0,none⟩=false/\w.frozen? ⟨b,1,none⟩=false/\w.frozen? ⟨b,2,none⟩=false/\w.frozen? ⟨b,3,none⟩=false/\w.frozen? ⟨b,4,none⟩=false/\w.frozen? ⟨b,5,none⟩=false/\w.frozen? ⟨b,6,none⟩=false/\w.frozen? ⟨b,7,none⟩=false/\w.frozen? ⟨b,8,none⟩=false/\w.frozen? ⟨b,9,none⟩=false):=by
 simp [World.cell?,World.frozen?,h]
theorem z1F {w w1:World} {b:Nat} {o:Obj} (h:w.heap[b]? = some o) (hb:Below w.heap.size w w1):w1.heap[b]? = some o:=(hb.block b (Array.getElem?_eq_some_iff.1 h).1).trans h
def HasSent (w:World):Prop:=∃ p,v1J w p
theorem q4V : "*" ++ "errors.errorString" = "*errors.errorString":=by decide
theorem q5A (u:TypeId) (h:Tryz.prog.typeName? 3 u=some "*errors.errorString"):u=248:=
 typeName_ptr_named (nm := "errors.errorString") (by rw [q4V]; kernel_rfl) (by kernel_rfl) (by decide) u (by rw [q4V]; exact h)
theorem j4E {W:World} {r:List (String × DataW Unit)} (h:laidMet Tryz.prog (("loop.example/milldam/impl.errNotReckoned",Rows.laid_loop_example_milldam_impl_errNotReckoned) :: r) W):HasSent W:=by
 have hg:Tryz.prog.globalNamed "loop.example/milldam/impl.errNotReckoned" = some 0:=by kernel_rfl
 obtain ⟨a,s,hv,_⟩:=laid_sentinel h hg (by kernel_rfl) Tryz.underlying100 q5A Tryz.underlying248 Tryz.underlying270 rfl rfl Tryz.underlying9 (by kernel_rfl) (by kernel_rfl);have hc:=World.var?_cell hg hv 0;exact ⟨a,v1S hc,hc⟩
end Go.Proofs.YtmjaepdplbgohaaGreatDoor
