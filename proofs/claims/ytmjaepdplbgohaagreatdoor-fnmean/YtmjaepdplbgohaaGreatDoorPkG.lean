/- Part of the proof of laws.FnMean: CellImpl, CellReck, TestSpec, TestSpec2, TestImpl. -/
import Derived.Test.YtmjaepdplbgohaaGreatDoorPkC
import Derived.Test.YtmjaepdplbgohaaGreatDoorPkA
import Derived.Deep.RegionWith
set_option maxRecDepth 100000
set_option maxHeartbeats 16000000
set_option linter.unusedVariables false
set_option linter.unusedSimpArgs false
namespace Go.Proofs.YtmjaepdplbgohaaGreatDoor
open Go.RowKit
theorem k2Z (k a b n k' a' b' n':Int) (w:World) :
  (binOp .eql 24 (.agg #[.int .i64 k,.int .i64 a,.int .i64 b,.int .i64 n]) (.agg #[.int .i64 k',.int .i64 a',.int .i64 b',.int .i64 n'])).run Tryz.prog w = .ok (.bool (k==k'&&(a==a'&&(b==b'&&n==n')))) w:=by
 have hs:Tryz.prog.stoodInHeld 24=false:=by kernel_rfl
 rw [run_eql_struct,run_equalIn_agg (P:=Tryz.prog) w _ _ _ _ (by kernel_rfl) hs];simp only [Program.fieldsOf,Tryz.underlying24];by_cases h1:k=k' <;> by_cases h2:a=a' <;> by_cases h3:b=b' <;> by_cases h4:n=n' <;> simp [go_sem,h1,h2,h3,h4,Tryz.underlying3]
theorem q3Q (a:Int) (w:World) :
  Calls Tryz.prog 152 #[.agg #[.int .i64 1,.int .i64 a,.int .i64 0,.int .i64 0]] w fun e w'=>e = .returned (.tuple #[.iface 227 (.agg #[.int .i64 a]),.nilIface])/\Below w.heap.size w w':=by
 have h0:∀ w:World,(binOp .eql 24 (.agg #[.int .i64 1,.int .i64 a,.int .i64 0,.int .i64 0]) (.agg #[.int .i64 1,.int .i64 a,.int .i64 0,.int .i64 0])).run Tryz.prog w = .ok (.bool true) w:=fun w=>by rw [k2Z]; simp
 go_enter Tryz.func152,Tryz.ntmps152;go_wp2;go_ret2;exact ⟨rfl,z1B _⟩
theorem q3P (n:Int) (w:World) :
  Calls Tryz.prog 152 #[.agg #[.int .i64 2,.int .i64 0,.int .i64 0,.int .i64 n]] w fun e w'=>e = .returned (.tuple #[.iface 229 (.agg #[.int .i64 n]),.nilIface])/\Below w.heap.size w w':=by
 have h0:∀ w:World,(binOp .eql 24 (.agg #[.int .i64 2,.int .i64 0,.int .i64 0,.int .i64 n]) (.agg #[.int .i64 1,.int .i64 0,.int .i64 0,.int .i64 0])).run Tryz.prog w = .ok (.bool false) w:=fun w=>by rw [k2Z]; simp
 have h1:∀ w:World,(binOp .eql 24 (.agg #[.int .i64 2,.int .i64 0,.int .i64 0,.int .i64 n]) (.agg #[.int .i64 2,.int .i64 0,.int .i64 0,.int .i64 n])).run Tryz.prog w = .ok (.bool true) w:=fun w=>by rw [k2Z]; simp
 go_enter Tryz.func152,Tryz.ntmps152;go_wp2;go_ret2;exact ⟨rfl,z1B _⟩
theorem k2G (a b:Int) (w:World) :
  Calls Tryz.prog 152 #[.agg #[.int .i64 3,.int .i64 a,.int .i64 b,.int .i64 0]] w fun e w'=>e = .returned (.tuple #[.iface 231 (.agg #[.int .i64 a,.int .i64 b]),.nilIface])/\Below w.heap.size w w':=by
 have h0:∀ w:World,(binOp .eql 24 (.agg #[.int .i64 3,.int .i64 a,.int .i64 b,.int .i64 0]) (.agg #[.int .i64 1,.int .i64 a,.int .i64 0,.int .i64 0])).run Tryz.prog w = .ok (.bool false) w:=fun w=>by rw [k2Z]; simp
 have h1:∀ w:World,(binOp .eql 24 (.agg #[.int .i64 3,.int .i64 a,.int .i64 b,.int .i64 0]) (.agg #[.int .i64 2,.int .i64 0,.int .i64 0,.int .i64 0])).run Tryz.prog w = .ok (.bool false) w:=fun w=>by rw [k2Z]; simp
 have h2:∀ w:World,(binOp .eql 24 (.agg #[.int .i64 3,.int .i64 a,.int .i64 b,.int .i64 0]) (.agg #[.int .i64 3,.int .i64 a,.int .i64 b,.int .i64 0])).run Tryz.prog w = .ok (.bool true) w:=fun w=>by rw [k2Z]; simp
 go_enter Tryz.func152,Tryz.ntmps152;go_wp2;go_ret2;exact ⟨rfl,z1B _⟩
def Cel.kindB (c:Cel):Bool:=decide ((c.k=1/\c.b=0/\c.n=0)\/(c.k=2/\c.a=0/\c.b=0)\/(c.k=3/\c.n=0))
theorem j4K (c:Cel) (w:World) (p:Addr) (hs:v1J w p) (hk:c.kindB=false) :
  Calls Tryz.prog 152 #[.agg #[.int .i64 c.k,.int .i64 c.a,.int .i64 c.b,.int .i64 c.n]] w fun e w'=>e = .returned (.tuple #[.nilIface,.iface 248 (.pointer (some p))])/\Below w.heap.size w w':=by
 obtain ⟨k,a,b,n⟩:=c;simp only [Cel.kindB,decide_eq_false_iff_not] at hk;simp only;have h0:∀ w:World,(binOp .eql 24 (.agg #[.int .i64 k,.int .i64 a,.int .i64 b,.int .i64 n]) (.agg #[.int .i64 1,.int .i64 a,.int .i64 0,.int .i64 0])).run Tryz.prog w = .ok (.bool false) w:=fun w=>by
  rw [k2Z]; congr 2; rw [Bool.eq_false_iff]; simp; omega
 have h1:∀ w:World,(binOp .eql 24 (.agg #[.int .i64 k,.int .i64 a,.int .i64 b,.int .i64 n]) (.agg #[.int .i64 2,.int .i64 0,.int .i64 0,.int .i64 n])).run Tryz.prog w = .ok (.bool false) w:=fun w=>by
  rw [k2Z]; congr 2; rw [Bool.eq_false_iff]; simp; omega
 have h2:∀ w:World,(binOp .eql 24 (.agg #[.int .i64 k,.int .i64 a,.int .i64 b,.int .i64 n]) (.agg #[.int .i64 3,.int .i64 a,.int .i64 b,.int .i64 0])).run Tryz.prog w = .ok (.bool false) w:=fun w=>by
  rw [k2Z]; congr 2; rw [Bool.eq_false_iff]; simp; omega
 have hg:=(hs.below (z1B (.cells #[.int .i64 k,.int .i64 a,.int .i64 b,.int .i64 n] 24))).2;clear hs hk;go_enter Tryz.func152,Tryz.ntmps152;go_wp2;go_quiet (fail)
 go_wp2;go_ret2;exact ⟨rfl,below_drewN (z1B _) _⟩
theorem z2L (a wide:Int) (w:World) :
  Calls Tryz.prog 251 #[.agg #[.int .i64 a],.int .i64 wide] w fun e w'=>e = .returned (.bool (z2U a wide))/\Below w.heap.size w w':=by
 by_cases h1:0<=a
 ·
  by_cases h2:wide<=6
  ·
   by_cases h3:a<wide
   ·
    go_enter Tryz.func251,Tryz.ntmps251;go_wp2;go_ret;exact ⟨z1N (by simp [z2U]; omega),z1B _⟩
   ·
    go_enter Tryz.func251,Tryz.ntmps251;go_wp2;go_ret;exact ⟨z1N (by simp [z2U]; omega),z1B _⟩
  ·
   by_cases h3:a<6
   ·
    go_enter Tryz.func251,Tryz.ntmps251;go_wp2;go_ret;exact ⟨z1N (by simp [z2U]; omega),z1B _⟩
   ·
    go_enter Tryz.func251,Tryz.ntmps251;go_wp2;go_ret;exact ⟨z1N (by simp [z2U]; omega),z1B _⟩
 ·
  go_enter Tryz.func251,Tryz.ntmps251;go_wp2;go_ret;exact ⟨z1N (by simp [z2U]; omega),z1B _⟩
theorem z3K (n wide:Int) (w:World) :
  Calls Tryz.prog 254 #[.agg #[.int .i64 n],.int .i64 wide] w fun e w'=>e = .returned (.bool (q1W n))/\Below w.heap.size w w':=by
 go_enter Tryz.func254,Tryz.ntmps254;go_wp2_with fail;refine (v1V _ _).mono ?_;rintro e w2 ⟨rfl,rfl⟩;go_wp2;go_ret;exact ⟨rfl,z1B _⟩
theorem z6Q {w w2:World} {v0 v1:Value} {t:TypeId} (h:Below (w.alloc (.cells #[v0,v1] t)).heap.size (w.alloc (.cells #[v0,v1] t)) w2) :
  w2.cell? ⟨w.heap.size,0,none⟩=some v0/\w2.cell? ⟨w.heap.size,1,none⟩=some v1:=by
 have hl:w.heap.size<(w.alloc (.cells #[v0,v1] t)).heap.size:=by rw [v2C]; omega
 refine ⟨(h.cell (p:=⟨w.heap.size,0,none⟩) hl).trans ?_,(h.cell (p:=⟨w.heap.size,1,none⟩) hl).trans ?_⟩ <;> simp [go_sem]
theorem x2R (a b wide:Int) (w:World) :
  Calls Tryz.prog 257 #[.agg #[.int .i64 a,.int .i64 b],.int .i64 wide] w fun e w'=>e = .returned (.bool (z2U a wide&&z2U b wide))/\Below w.heap.size w w':=by
 cases ha:z2U a wide
 ·
  go_enter Tryz.func257,Tryz.ntmps257;go_wp2_with fail;refine (z2L _ _ _).mono ?_;rintro e w2 ⟨rfl,hb2⟩;have HB:Hid (Below w.heap.size w w2):=z1A (z1B _) hb2;clear hb2;go_wp2;go_ret;exact ⟨rfl,HB.out⟩
 ·
  go_enter Tryz.func257,Tryz.ntmps257;go_wp2_with fail;refine (z2L _ _ _).mono ?_;rintro e w2 ⟨rfl,hb2⟩;have HB:Hid (Below w.heap.size w w2):=z1A (z1B _) hb2;obtain ⟨c0,c1⟩:=z6Q hb2;clear hb2;go_wp2_with fail;refine (z2L _ _ _).mono ?_;rintro e w3 ⟨rfl,hb3⟩;have HB2:Hid (Below w.heap.size w w3):=z1A HB.out hb3;clear hb3;go_wp2;go_ret;exact ⟨rfl,HB2.out⟩
theorem j6D (v:Value) (w:World):(Go.method 381 227 v "loop.example/milldam/impl.okFor").run Tryz.prog w = .ok (251,v) w:=by kernel_rfl
theorem j6C (v:Value) (w:World):(Go.method 381 229 v "loop.example/milldam/impl.okFor").run Tryz.prog w = .ok (254,v) w:=by kernel_rfl
theorem q5S (v:Value) (w:World):(Go.method 381 231 v "loop.example/milldam/impl.okFor").run Tryz.prog w = .ok (257,v) w:=by kernel_rfl
theorem v5G (a:Int) (wide:Int) (w:World) (p:Addr) (hs:v1J w p) :
  Calls Tryz.prog 211 #[.agg #[.int .i64 1,.int .i64 a,.int .i64 0,.int .i64 0],.int .i64 wide] w fun e w'=>e = .returned (.bool (z2U a wide))/\Below w.heap.size w w':=by
 have hm:=j6D;go_enter Tryz.func211,Tryz.ntmps211;go_wp2_with fail;refine (q3Q _ _).mono ?_;rintro e w2 ⟨rfl,hb2⟩;have HB:Hid (Below w.heap.size w w2):=z1A (z1B _) hb2;have hg:=(hs.below HB.out).2;clear hb2;go_wp2_with fail;refine (x2H p _).mono ?_;rintro e w3 ⟨rfl,rfl⟩;go_wp2_with fail;refine (z2L _ _ _).mono ?_;rintro e w4 ⟨rfl,hb4⟩;have HB2:Hid (Below w.heap.size w w4):=z1A HB.out hb4;clear hb4 hg;go_wp2;go_ret;exact ⟨rfl,HB2.out⟩
theorem v5F (n:Int) (wide:Int) (w:World) (p:Addr) (hs:v1J w p) :
  Calls Tryz.prog 211 #[.agg #[.int .i64 2,.int .i64 0,.int .i64 0,.int .i64 n],.int .i64 wide] w fun e w'=>e = .returned (.bool (q1W n))/\Below w.heap.size w w':=by
 have hm:=j6C;go_enter Tryz.func211,Tryz.ntmps211;go_wp2_with fail;refine (q3P _ _).mono ?_;rintro e w2 ⟨rfl,hb2⟩;have HB:Hid (Below w.heap.size w w2):=z1A (z1B _) hb2;have hg:=(hs.below HB.out).2;clear hb2;go_wp2_with fail;refine (x2H p _).mono ?_;rintro e w3 ⟨rfl,rfl⟩;go_wp2_with fail;refine (z3K _ _ _).mono ?_;rintro e w4 ⟨rfl,hb4⟩;have HB2:Hid (Below w.heap.size w w4):=z1A HB.out hb4;clear hb4 hg;go_wp2;go_ret;exact ⟨rfl,HB2.out⟩
theorem v5E (a b:Int) (wide:Int) (w:World) (p:Addr) (hs:v1J w p) :
  Calls Tryz.prog 211 #[.agg #[.int .i64 3,.int .i64 a,.int .i64 b,.int .i64 0],.int .i64 wide] w fun e w'=>e = .returned (.bool (z2U a wide&&z2U b wide))/\Below w.heap.size w w':=by
 have hm:=q5S;go_enter Tryz.func211,Tryz.ntmps211;go_wp2_with fail;refine (k2G _ _ _).mono ?_;rintro e w2 ⟨rfl,hb2⟩;have HB:Hid (Below w.heap.size w w2):=z1A (z1B _) hb2;have hg:=(hs.below HB.out).2;clear hb2;go_wp2_with fail;refine (x2H p _).mono ?_;rintro e w3 ⟨rfl,rfl⟩;go_wp2_with fail;refine (x2R _ _ _ _).mono ?_;rintro e w4 ⟨rfl,hb4⟩;have HB2:Hid (Below w.heap.size w w4):=z1A HB.out hb4;clear hb4 hg;go_wp2;go_ret;exact ⟨rfl,HB2.out⟩
theorem k4W (c:Cel) (wide:Int) (w:World) (p:Addr) (hs:v1J w p) (hk:c.kindB=false) :
  Calls Tryz.prog 211 #[.agg #[.int .i64 c.k,.int .i64 c.a,.int .i64 c.b,.int .i64 c.n],.int .i64 wide] w fun e w'=>e = .returned (.bool false)/\Below w.heap.size w w':=by
 go_enter Tryz.func211,Tryz.ntmps211;go_wp2_with fail;refine (j4K c _ p (hs.below (z1B _)) hk).mono ?_;rintro e w2 ⟨rfl,hb2⟩;have HB:Hid (Below w.heap.size w w2):=z1A (z1B _) hb2;have hg:=(hs.below HB.out).2;clear hb2;go_wp2_with fail;refine (z4V p _).mono ?_;rintro e w3 ⟨rfl,rfl⟩;go_wp2;go_ret;exact ⟨rfl,HB.out⟩
theorem q1R (c:Cel) (wide:Int) (w:World) (p:Addr) (hs:v1J w p) :
  Calls Tryz.prog 211 #[.agg #[.int .i64 c.k,.int .i64 c.a,.int .i64 c.b,.int .i64 c.n],.int .i64 wide] w fun e w'=>e = .returned (.bool (c.okB wide))/\Below w.heap.size w w':=by
 cases hk:c.kindB
 ·
  have h:c.okB wide=false:=by
   simp only [Cel.kindB,decide_eq_false_iff_not] at hk;exact k2I (by omega)
  rw [h];exact k4W c wide w p hs hk
 ·
  obtain ⟨k,a,b,n⟩:=c;simp only [Cel.kindB,decide_eq_true_eq] at hk;rcases hk with ⟨rfl,rfl,rfl⟩ | ⟨rfl,rfl,rfl⟩ | ⟨rfl,rfl⟩
  ·
   refine (v5G a wide w p hs).mono fun e w' ⟨he,hw⟩=>⟨he.trans (z1N ?_),hw⟩;simp [z2U,Cel.okB]
  ·
   refine (v5F n wide w p hs).mono fun e w' ⟨he,hw⟩=>⟨he.trans (z1N ?_),hw⟩;simp [q1W,Cel.okB]
  ·
   refine (v5E a b wide w p hs).mono fun e w' ⟨he,hw⟩=>⟨he.trans (z1N ?_),hw⟩;simp [z2U,Cel.okB]
theorem j6T (j:Nat) (g off len cap:Nat) (x:Int) (w:World) (hj:j<len) (hlim:len<=140737488355328) (hg:g<w.heap.size) (hc:w.cell? ⟨g,off+j,none⟩=some (.int .i64 x)) :
  Calls Tryz.prog 250 #[.agg #[.int .i64 (j:Int)],.slice (some ⟨g,off,none⟩) len cap] w fun e w'=>e = .returned (.tuple #[.int .i64 x,.nilIface])/\Below w.heap.size w w':=by
 have hc1:=((z1B (w:=w) (.cells #[.int .i64 (j:Int)] 227)).cell (p:=⟨g,off+j,none⟩) hg).trans hc;go_enter Tryz.func250,Tryz.ntmps250;go_wp2;go_ret2;exact ⟨rfl,z1B _⟩
theorem z6V (n:Int) (v:Value) (w:World) :
  Calls Tryz.prog 253 #[.agg #[.int .i64 n],v] w fun e w'=>e = .returned (.tuple #[.int .i64 n,.nilIface])/\Below w.heap.size w w':=by
 go_enter Tryz.func253,Tryz.ntmps253;go_wp2;go_ret2;exact ⟨rfl,z1B _⟩
theorem k5K (ja jb:Nat) (g off len cap:Nat) (x y:Int) (w:World) (p:Addr) (hs:v1J w p) (hja:ja<len) (hjb:jb<len) (hlim:len<=140737488355328) (hg:g<w.heap.size) (hc:w.cell? ⟨g,off+ja,none⟩=some (.int .i64 x)) (hd:w.cell? ⟨g,off+jb,none⟩=some (.int .i64 y))
  (hwr:IntKind.i64.wrap (x+y)=x+y) (hf:q1W (x+y)=true) :
  Calls Tryz.prog 256 #[.agg #[.int .i64 (ja:Int),.int .i64 (jb:Int)],.slice (some ⟨g,off,none⟩) len cap] w fun e w'=>e = .returned (.tuple #[.int .i64 (x+y),.nilIface])/\Below w.heap.size w w':=by
 have hc1:=((z1B (w:=w) (.cells #[.int .i64 (ja:Int),.int .i64 (jb:Int)] 231)).cell (p:=⟨g,off+ja,none⟩) hg).trans hc;have hd1:=((z1B (w:=w) (.cells #[.int .i64 (ja:Int),.int .i64 (jb:Int)] 231)).cell (p:=⟨g,off+jb,none⟩) hg).trans hd;clear hc hd;go_enter Tryz.func256,Tryz.ntmps256;go_wp2_with fail;go_quiet (fail)
 go_wp2_with fail;refine (v1V _ _).mono ?_;rintro e w3 ⟨rfl,rfl⟩;go_wp2;go_ret2;exact ⟨rfl,below_drewN (z1B _) _⟩
theorem twoOf_no (ja jb:Nat) (g off len cap:Nat) (x y:Int) (w:World) (p:Addr) (hs:v1J w p) (hja:ja<len) (hjb:jb<len) (hlim:len<=140737488355328) (hg:g<w.heap.size) (hc:w.cell? ⟨g,off+ja,none⟩=some (.int .i64 x)) (hd:w.cell? ⟨g,off+jb,none⟩=some (.int .i64 y))
  (hwr:IntKind.i64.wrap (x+y)=x+y) (hf:q1W (x+y)=false) :
  Calls Tryz.prog 256 #[.agg #[.int .i64 (ja:Int),.int .i64 (jb:Int)],.slice (some ⟨g,off,none⟩) len cap] w fun e w'=>e = .returned (.tuple #[.int .i64 0,.iface 248 (.pointer (some p))])/\Below w.heap.size w w':=by
 have hc1:=((z1B (w:=w) (.cells #[.int .i64 (ja:Int),.int .i64 (jb:Int)] 231)).cell (p:=⟨g,off+ja,none⟩) hg).trans hc;have hd1:=((z1B (w:=w) (.cells #[.int .i64 (ja:Int),.int .i64 (jb:Int)] 231)).cell (p:=⟨g,off+jb,none⟩) hg).trans hd;have hg2:=(hs.below (z1B (w:=w) (.cells #[.int .i64 (ja:Int),.int .i64 (jb:Int)] 231))).2;clear hc hd;go_enter Tryz.func256,Tryz.ntmps256;go_wp2_with fail;go_quiet (fail)
 go_wp2_with fail;refine (v1V _ _).mono ?_;rintro e w3 ⟨rfl,rfl⟩;go_wp2;go_quiet (fail)
 go_wp2;go_ret2;exact ⟨rfl,below_drewN (below_drewN (z1B _) _) _⟩
theorem x4I (v:Value) (w:World):(Go.method 381 227 v "loop.example/milldam/impl.of").run Tryz.prog w = .ok (250,v) w:=by kernel_rfl
theorem x4H (v:Value) (w:World):(Go.method 381 229 v "loop.example/milldam/impl.of").run Tryz.prog w = .ok (253,v) w:=by kernel_rfl
theorem j2Q (v:Value) (w:World):(Go.method 381 231 v "loop.example/milldam/impl.of").run Tryz.prog w = .ok (256,v) w:=by kernel_rfl
theorem k4A (c:Cel) (s0:Option Addr) (len cap:Nat) (xs:List Int) (w:World) (p:Addr) (hs:v1J w p) (hx:z1E w (.slice s0 len cap) xs) (hk:c.kindB=false) :
  Calls Tryz.prog 121 #[.agg #[.int .i64 c.k,.int .i64 c.a,.int .i64 c.b,.int .i64 c.n],.slice s0 len cap] w fun e w'=>e = .returned (.tuple #[.int .i64 0,.iface 248 (.pointer (some p))])/\Below w.heap.size w w':=by
 go_enter Tryz.func121,Tryz.ntmps121;go_wp2_with fail;refine (j4K c _ p (hs.below (z1B _)) hk).mono ?_;rintro e w2 ⟨rfl,hb2⟩;have HB:Hid (Below w.heap.size w w2):=z1A (z1B _) hb2;have hg:=(hs.below HB.out).2;have HX:Hid (z1E w2 (.slice s0 len cap) xs):=hx.below HB.out;have HS:Hid (v1J w2 p):=hs.below HB.out;clear hb2 hs hx;go_wp2;go_ret2;exact ⟨rfl,HB.out⟩
theorem v3D (a:Int) (s0:Option Addr) (len cap:Nat) (xs:List Int) (w:World) (p:Addr) (hs:v1J w p) (hx:z1E w (.slice s0 len cap) xs) (hr:z1R xs=false) :
  Calls Tryz.prog 121 #[.agg #[.int .i64 1,.int .i64 a,.int .i64 0,.int .i64 0],.slice s0 len cap] w fun e w'=>e = .returned (.tuple #[.int .i64 0,.iface 248 (.pointer (some p))])/\Below w.heap.size w w':=by
 go_enter Tryz.func121,Tryz.ntmps121;go_wp2_with fail;refine (q3Q _ _).mono ?_;rintro e w2 ⟨rfl,hb2⟩;have HB:Hid (Below w.heap.size w w2):=z1A (z1B _) hb2;have hg:=(hs.below HB.out).2;have HX:Hid (z1E w2 (.slice s0 len cap) xs):=hx.below HB.out;have HS:Hid (v1J w2 p):=hs.below HB.out;clear hb2 hs hx;go_wp2_with fail;refine (j1C _ xs _ HX.out).mono ?_;rintro e w3 ⟨rfl,rfl⟩;go_wp2;go_quiet (fail)
 go_wp2;go_ret2;exact ⟨rfl,below_drewN HB.out _⟩
theorem v3E (a:Int) (s0:Option Addr) (len cap:Nat) (xs:List Int) (w:World) (p:Addr) (hs:v1J w p) (hx:z1E w (.slice s0 len cap) xs) (hr:z1R xs=true) (hf:z2U a len=false) :
  Calls Tryz.prog 121 #[.agg #[.int .i64 1,.int .i64 a,.int .i64 0,.int .i64 0],.slice s0 len cap] w fun e w'=>e = .returned (.tuple #[.int .i64 0,.iface 248 (.pointer (some p))])/\Below w.heap.size w w':=by
 have hm:=j6D;go_enter Tryz.func121,Tryz.ntmps121;go_wp2_with fail;refine (q3Q _ _).mono ?_;rintro e w2 ⟨rfl,hb2⟩;have HB:Hid (Below w.heap.size w w2):=z1A (z1B _) hb2;have hg:=(hs.below HB.out).2;have HX:Hid (z1E w2 (.slice s0 len cap) xs):=hx.below HB.out;have HS:Hid (v1J w2 p):=hs.below HB.out;clear hb2 hs hx;go_wp2_with fail;refine (j1C _ xs _ HX.out).mono ?_;rintro e w3 ⟨rfl,rfl⟩;go_wp2_with fail;refine (z2L _ _ _).mono ?_;rintro e w4 ⟨rfl,hb4⟩;have HB2:Hid (Below w.heap.size w w4):=z1A HB.out hb4;have HX2:Hid (z1E w4 (.slice s0 len cap) xs):=HX.out.below hb4;have hg2:=(HS.out.below hb4).2;clear hb4 hg;rw [hf];go_wp2;go_quiet (fail)
 go_wp2;go_ret2;exact ⟨rfl,below_drewN HB2.out _⟩
theorem v3B (n:Int) (s0:Option Addr) (len cap:Nat) (xs:List Int) (w:World) (p:Addr) (hs:v1J w p) (hx:z1E w (.slice s0 len cap) xs) (hr:z1R xs=false) :
  Calls Tryz.prog 121 #[.agg #[.int .i64 2,.int .i64 0,.int .i64 0,.int .i64 n],.slice s0 len cap] w fun e w'=>e = .returned (.tuple #[.int .i64 0,.iface 248 (.pointer (some p))])/\Below w.heap.size w w':=by
 go_enter Tryz.func121,Tryz.ntmps121;go_wp2_with fail;refine (q3P _ _).mono ?_;rintro e w2 ⟨rfl,hb2⟩;have HB:Hid (Below w.heap.size w w2):=z1A (z1B _) hb2;have hg:=(hs.below HB.out).2;have HX:Hid (z1E w2 (.slice s0 len cap) xs):=hx.below HB.out;have HS:Hid (v1J w2 p):=hs.below HB.out;clear hb2 hs hx;go_wp2_with fail;refine (j1C _ xs _ HX.out).mono ?_;rintro e w3 ⟨rfl,rfl⟩;go_wp2;go_quiet (fail)
 go_wp2;go_ret2;exact ⟨rfl,below_drewN HB.out _⟩
theorem v3C (n:Int) (s0:Option Addr) (len cap:Nat) (xs:List Int) (w:World) (p:Addr) (hs:v1J w p) (hx:z1E w (.slice s0 len cap) xs) (hr:z1R xs=true) (hf:q1W n=false) :
  Calls Tryz.prog 121 #[.agg #[.int .i64 2,.int .i64 0,.int .i64 0,.int .i64 n],.slice s0 len cap] w fun e w'=>e = .returned (.tuple #[.int .i64 0,.iface 248 (.pointer (some p))])/\Below w.heap.size w w':=by
 have hm:=j6C;go_enter Tryz.func121,Tryz.ntmps121;go_wp2_with fail;refine (q3P _ _).mono ?_;rintro e w2 ⟨rfl,hb2⟩;have HB:Hid (Below w.heap.size w w2):=z1A (z1B _) hb2;have hg:=(hs.below HB.out).2;have HX:Hid (z1E w2 (.slice s0 len cap) xs):=hx.below HB.out;have HS:Hid (v1J w2 p):=hs.below HB.out;clear hb2 hs hx;go_wp2_with fail;refine (j1C _ xs _ HX.out).mono ?_;rintro e w3 ⟨rfl,rfl⟩;go_wp2_with fail;refine (z3K _ _ _).mono ?_;rintro e w4 ⟨rfl,hb4⟩;have HB2:Hid (Below w.heap.size w w4):=z1A HB.out hb4;have HX2:Hid (z1E w4 (.slice s0 len cap) xs):=HX.out.below hb4;have hg2:=(HS.out.below hb4).2;clear hb4 hg;rw [hf];go_wp2;go_quiet (fail)
 go_wp2;go_ret2;exact ⟨rfl,below_drewN HB2.out _⟩
theorem z4D (n:Int) (s0:Option Addr) (len cap:Nat) (xs:List Int) (w:World) (p:Addr) (hs:v1J w p) (hx:z1E w (.slice s0 len cap) xs) (hr:z1R xs=true) (hf:q1W n=true) :
  Calls Tryz.prog 121 #[.agg #[.int .i64 2,.int .i64 0,.int .i64 0,.int .i64 n],.slice s0 len cap] w fun e w'=>e = .returned (.tuple #[.int .i64 n,.nilIface])/\Below w.heap.size w w':=by
 have hm:=j6C;have ho:=x4H;go_enter Tryz.func121,Tryz.ntmps121;go_wp2_with fail;refine (q3P _ _).mono ?_;rintro e w2 ⟨rfl,hb2⟩;have HB:Hid (Below w.heap.size w w2):=z1A (z1B _) hb2;have hg:=(hs.below HB.out).2;have HX:Hid (z1E w2 (.slice s0 len cap) xs):=hx.below HB.out;have HS:Hid (v1J w2 p):=hs.below HB.out;clear hb2 hs hx;go_wp2_with fail;refine (j1C _ xs _ HX.out).mono ?_;rintro e w3 ⟨rfl,rfl⟩;go_wp2_with fail;refine (z3K _ _ _).mono ?_;rintro e w4 ⟨rfl,hb4⟩;have HB2:Hid (Below w.heap.size w w4):=z1A HB.out hb4;have HX2:Hid (z1E w4 (.slice s0 len cap) xs):=HX.out.below hb4;clear hb4 hg;rw [hf];go_wp2_with fail;refine (z6V _ _ _).mono ?_;rintro e w5 ⟨rfl,hb5⟩;have HB3:Hid (Below w.heap.size w w5):=z1A HB2.out hb5;clear hb5;go_wp2;go_ret2;exact ⟨rfl,HB3.out⟩
theorem x3Z (a b:Int) (s0:Option Addr) (len cap:Nat) (xs:List Int) (w:World) (p:Addr) (hs:v1J w p) (hx:z1E w (.slice s0 len cap) xs) (hr:z1R xs=false) :
  Calls Tryz.prog 121 #[.agg #[.int .i64 3,.int .i64 a,.int .i64 b,.int .i64 0],.slice s0 len cap] w fun e w'=>e = .returned (.tuple #[.int .i64 0,.iface 248 (.pointer (some p))])/\Below w.heap.size w w':=by
 go_enter Tryz.func121,Tryz.ntmps121;go_wp2_with fail;refine (k2G _ _ _).mono ?_;rintro e w2 ⟨rfl,hb2⟩;have HB:Hid (Below w.heap.size w w2):=z1A (z1B _) hb2;have hg:=(hs.below HB.out).2;have HX:Hid (z1E w2 (.slice s0 len cap) xs):=hx.below HB.out;have HS:Hid (v1J w2 p):=hs.below HB.out;clear hb2 hs hx;go_wp2_with fail;refine (j1C _ xs _ HX.out).mono ?_;rintro e w3 ⟨rfl,rfl⟩;go_wp2;go_quiet (fail)
 go_wp2;go_ret2;exact ⟨rfl,below_drewN HB.out _⟩
theorem v3A (a b:Int) (s0:Option Addr) (len cap:Nat) (xs:List Int) (w:World) (p:Addr) (hs:v1J w p) (hx:z1E w (.slice s0 len cap) xs) (hr:z1R xs=true) (hf:(z2U a len&&z2U b len)=false) :
  Calls Tryz.prog 121 #[.agg #[.int .i64 3,.int .i64 a,.int .i64 b,.int .i64 0],.slice s0 len cap] w fun e w'=>e = .returned (.tuple #[.int .i64 0,.iface 248 (.pointer (some p))])/\Below w.heap.size w w':=by
 have hm:=q5S;go_enter Tryz.func121,Tryz.ntmps121;go_wp2_with fail;refine (k2G _ _ _).mono ?_;rintro e w2 ⟨rfl,hb2⟩;have HB:Hid (Below w.heap.size w w2):=z1A (z1B _) hb2;have hg:=(hs.below HB.out).2;have HX:Hid (z1E w2 (.slice s0 len cap) xs):=hx.below HB.out;have HS:Hid (v1J w2 p):=hs.below HB.out;clear hb2 hs hx;go_wp2_with fail;refine (j1C _ xs _ HX.out).mono ?_;rintro e w3 ⟨rfl,rfl⟩;go_wp2_with fail;refine (x2R _ _ _ _).mono ?_;rintro e w4 ⟨rfl,hb4⟩;have HB2:Hid (Below w.heap.size w w4):=z1A HB.out hb4;have HX2:Hid (z1E w4 (.slice s0 len cap) xs):=HX.out.below hb4;have hg2:=(HS.out.below hb4).2;clear hb4 hg;rw [hf];go_wp2;go_quiet (fail)
 go_wp2;go_ret2;exact ⟨rfl,below_drewN HB2.out _⟩
theorem z4E (j:Nat) (x:Int) (g off len cap:Nat) (xs:List Int) (w:World) (p:Addr) (hs:v1J w p) (hx:z1E w (.slice (some ⟨g,off,none⟩) len cap) xs) (hlim:len<=140737488355328) (hgw:g<w.heap.size) (hc:w.cell? ⟨g,off+j,none⟩=some (.int .i64 x)) (hj:j<len) (hf:z2U j len=true) (hr:z1R xs=true) :
  Calls Tryz.prog 121 #[.agg #[.int .i64 1,.int .i64 (j:Int),.int .i64 0,.int .i64 0],.slice (some ⟨g,off,none⟩) len cap] w fun e w'=>e = .returned (.tuple #[.int .i64 x,.nilIface])/\Below w.heap.size w w':=by
 have hm:=j6D;have ho:=x4I;go_enter Tryz.func121,Tryz.ntmps121;go_wp2_with fail;refine (q3Q _ _).mono ?_;rintro e w2 ⟨rfl,hb2⟩;have HB:Hid (Below w.heap.size w w2):=z1A (z1B _) hb2;have hg:=(hs.below HB.out).2;have HX:Hid (z1E w2 (.slice (some ⟨g,off,none⟩) len cap) xs):=hx.below HB.out;have HS:Hid (v1J w2 p):=hs.below HB.out;clear hb2 hs hx;go_wp2_with fail;refine (j1C _ xs _ HX.out).mono ?_;rintro e w3 ⟨rfl,rfl⟩;go_wp2_with fail;refine (z2L _ _ _).mono ?_;rintro e w4 ⟨rfl,hb4⟩;have HB2:Hid (Below w.heap.size w w4):=z1A HB.out hb4;have hc4:=(HB2.out.cell (p:=⟨g,off+j,none⟩) hgw).trans hc;have hg4:g<w4.heap.size:=Nat.lt_of_lt_of_le hgw HB2.out.size;clear hb4 hg hc;rw [hf];go_wp2_with fail;refine (j6T j g off len cap x _ hj hlim hg4 hc4).mono ?_;rintro e w5 ⟨rfl,hb5⟩;have HB3:Hid (Below w.heap.size w w5):=z1A HB2.out hb5;clear hb5 hc4;go_wp2;go_ret2;exact ⟨rfl,HB3.out⟩
theorem x3Y (ja jb:Nat) (x y:Int) (g off len cap:Nat) (xs:List Int) (w:World) (p:Addr) (hs:v1J w p) (hx:z1E w (.slice (some ⟨g,off,none⟩) len cap) xs) (hlim:len<=140737488355328) (hgw:g<w.heap.size) (hc:w.cell? ⟨g,off+ja,none⟩=some (.int .i64 x)) (hd:w.cell? ⟨g,off+jb,none⟩=some (.int .i64 y)) (hja:ja<len) (hjb:jb<len) (hf:(z2U ja len&&z2U jb len)=true) (hwr:IntKind.i64.wrap (x+y)=x+y) (hcb:q1W (x+y)=true) (hr:z1R xs=true) :
  Calls Tryz.prog 121 #[.agg #[.int .i64 3,.int .i64 (ja:Int),.int .i64 (jb:Int),.int .i64 0],.slice (some ⟨g,off,none⟩) len cap] w fun e w'=>e = .returned (.tuple #[.int .i64 (x+y),.nilIface])/\Below w.heap.size w w':=by
 have hm:=q5S;have ho:=j2Q;go_enter Tryz.func121,Tryz.ntmps121;go_wp2_with fail;refine (k2G _ _ _).mono ?_;rintro e w2 ⟨rfl,hb2⟩;have HB:Hid (Below w.heap.size w w2):=z1A (z1B _) hb2;have hg:=(hs.below HB.out).2;have HX:Hid (z1E w2 (.slice (some ⟨g,off,none⟩) len cap) xs):=hx.below HB.out;have HS:Hid (v1J w2 p):=hs.below HB.out;clear hb2 hs hx;go_wp2_with fail;refine (j1C _ xs _ HX.out).mono ?_;rintro e w3 ⟨rfl,rfl⟩;go_wp2_with fail;refine (x2R _ _ _ _).mono ?_;rintro e w4 ⟨rfl,hb4⟩;have HB2:Hid (Below w.heap.size w w4):=z1A HB.out hb4;have hc4:=(HB2.out.cell (p:=⟨g,off+ja,none⟩) hgw).trans hc;have hd4:=(HB2.out.cell (p:=⟨g,off+jb,none⟩) hgw).trans hd;have hg4:g<w4.heap.size:=Nat.lt_of_lt_of_le hgw HB2.out.size;have hs4:Hid (v1J w4 p):=HS.out.below hb4;clear hb4 hg hc hd;rw [hf];go_wp2_with fail;refine (k5K ja jb g off len cap x y _ p hs4.out hja hjb hlim hg4 hc4 hd4 hwr hcb).mono ?_;rintro e w5 ⟨rfl,hb5⟩;have HB3:Hid (Below w.heap.size w w5):=z1A HB2.out hb5;clear hb5 hc4 hd4;go_wp2;go_ret2;exact ⟨rfl,HB3.out⟩
theorem z4C (ja jb:Nat) (x y:Int) (g off len cap:Nat) (xs:List Int) (w:World) (p:Addr) (hs:v1J w p) (hx:z1E w (.slice (some ⟨g,off,none⟩) len cap) xs) (hlim:len<=140737488355328) (hgw:g<w.heap.size) (hc:w.cell? ⟨g,off+ja,none⟩=some (.int .i64 x)) (hd:w.cell? ⟨g,off+jb,none⟩=some (.int .i64 y)) (hja:ja<len) (hjb:jb<len) (hf:(z2U ja len&&z2U jb len)=true) (hwr:IntKind.i64.wrap (x+y)=x+y) (hcb:q1W (x+y)=false) (hr:z1R xs=true) :
  Calls Tryz.prog 121 #[.agg #[.int .i64 3,.int .i64 (ja:Int),.int .i64 (jb:Int),.int .i64 0],.slice (some ⟨g,off,none⟩) len cap] w fun e w'=>e = .returned (.tuple #[.int .i64 0,.iface 248 (.pointer (some p))])/\Below w.heap.size w w':=by
 have hm:=q5S;have ho:=j2Q;go_enter Tryz.func121,Tryz.ntmps121;go_wp2_with fail;refine (k2G _ _ _).mono ?_;rintro e w2 ⟨rfl,hb2⟩;have HB:Hid (Below w.heap.size w w2):=z1A (z1B _) hb2;have hg:=(hs.below HB.out).2;have HX:Hid (z1E w2 (.slice (some ⟨g,off,none⟩) len cap) xs):=hx.below HB.out;have HS:Hid (v1J w2 p):=hs.below HB.out;clear hb2 hs hx;go_wp2_with fail;refine (j1C _ xs _ HX.out).mono ?_;rintro e w3 ⟨rfl,rfl⟩;go_wp2_with fail;refine (x2R _ _ _ _).mono ?_;rintro e w4 ⟨rfl,hb4⟩;have HB2:Hid (Below w.heap.size w w4):=z1A HB.out hb4;have hc4:=(HB2.out.cell (p:=⟨g,off+ja,none⟩) hgw).trans hc;have hd4:=(HB2.out.cell (p:=⟨g,off+jb,none⟩) hgw).trans hd;have hg4:g<w4.heap.size:=Nat.lt_of_lt_of_le hgw HB2.out.size;have hs4:Hid (v1J w4 p):=HS.out.below hb4;clear hb4 hg hc hd;rw [hf];go_wp2_with fail;refine (twoOf_no ja jb g off len cap x y _ p hs4.out hja hjb hlim hg4 hc4 hd4 hwr hcb).mono ?_;rintro e w5 ⟨rfl,hb5⟩;have HB3:Hid (Below w.heap.size w w5):=z1A HB2.out hb5;clear hb5 hc4 hd4;go_wp2;go_ret2;exact ⟨rfl,HB3.out⟩
def z5M (c:Cel) (xs:List Int) (p:Addr) (e:Ending):Prop:=
 (c.toldB xs=true/\e = .returned (.tuple #[.int .i64 (c.num xs),.nilIface]))\/(c.toldB xs=false/\e = .returned (.tuple #[.int .i64 0,.iface 248 (.pointer (some p))]))
theorem v5B {c:Cel} {wide:Int} (h:c.okB wide=true):c.kindB=true:=by
 rw [ok_iff] at h;simp only [Cel.kindB,decide_eq_true_eq];omega
theorem wrap_sum {x y:Int} (hx : -1000000000<=x/\x<=1000000000) (hy : -1000000000<=y/\y<=1000000000):IntKind.i64.wrap (x+y)=x+y:=by unfold IntKind.wrap; simp [IntKind.bits,IntKind.signed]; omega
theorem x1K (c:Cel) (v:Value) (xs:List Int) (w:World) (p:Addr) (hs:v1J w p) (hx:z1E w v xs) :
  Calls Tryz.prog 121 #[.agg #[.int .i64 c.k,.int .i64 c.a,.int .i64 c.b,.int .i64 c.n],v] w fun e w'=>z5M c xs p e/\Below w.heap.size w w':=by
 obtain ⟨s0,len,cap,rfl,hlen⟩:∃ s0 len cap,v = .slice s0 len cap/\len=xs.length:=by
  obtain ⟨_,s0,cap,hv,_⟩:=hx;exact ⟨s0,_,cap,hv,rfl⟩
 have no:c.toldB xs=false->∀ {e:Ending} {w':World},(e = .returned (.tuple #[.int .i64 0,.iface 248 (.pointer (some p))])/\Below w.heap.size w w')->z5M c xs p e/\Below w.heap.size w w':=fun h _ _ hh=>⟨.inr ⟨h,hh.1⟩,hh.2⟩;have yes:c.toldB xs=true->∀ {e:Ending} {w':World},(e = .returned (.tuple #[.int .i64 (c.num xs),.nilIface])/\Below w.heap.size w w')->z5M c xs p e/\Below w.heap.size w w':=fun h _ _ hh=>⟨.inl ⟨h,hh.1⟩,hh.2⟩;cases hk:c.kindB
 ·
  have h1:c.toldB xs=false:=by
   cases ho:c.okB xs.length
   ·
    simp [Cel.toldB,ho]
   ·
    rw [v5B ho] at hk; cases hk
  exact (k4A c s0 len cap xs w p hs hx hk).mono fun e w' h=>no h1 h
 ·
  obtain ⟨k,a,b,n⟩:=c;simp only [Cel.kindB,decide_eq_true_eq] at hk;cases hr:z1R xs
  ·
   have h1:Cel.toldB ⟨k,a,b,n⟩ xs=false:=by simp [Cel.toldB,hr]
   rcases hk with ⟨rfl,rfl,rfl⟩ | ⟨rfl,rfl,rfl⟩ | ⟨rfl,rfl⟩
   ·
    exact (v3D a s0 len cap xs w p hs hx hr).mono fun e w' h=>no h1 h
   ·
    exact (v3B n s0 len cap xs w p hs hx hr).mono fun e w' h=>no h1 h
   ·
    exact (x3Z a b s0 len cap xs w p hs hx hr).mono fun e w' h=>no h1 h
  ·
   obtain ⟨g,off,cap2,hpos,hlim,hv,hbw,hc⟩:=(hx.cases).resolve_left (by rintro ⟨a0,cap0,rfl,_⟩; simp [z1R] at hr);simp only [Value.slice.injEq] at hv;obtain ⟨rfl,-,rfl⟩:=hv;rcases hk with ⟨rfl,rfl,rfl⟩ | ⟨rfl,rfl,rfl⟩ | ⟨rfl,rfl⟩
   ·
    cases hf:z2U a len
    ·
     have h0:Cel.okB ⟨1,a,0,0⟩ xs.length=false:=k2I (by rw [z3T,hlen] at hf; simp only; omega);exact (v3E a _ len cap xs w p hs hx hr hf).mono fun e w' h=>no (by simp [Cel.toldB,h0]) h
    ·
     have hf2:=k2X.1 hf;obtain ⟨j,rfl⟩:∃ j:Nat,a=j:=⟨a.toNat,by omega⟩;have hj:j<xs.length:=by omega
     have h0:Cel.okB ⟨1,j,0,0⟩ xs.length=true:=v3X (.inl ⟨rfl,⟨by simp only; omega,by simp only; omega,by simp only; omega⟩,rfl,rfl⟩);have hu:Cel.num ⟨1,j,0,0⟩ xs=xs.getD j 0:=by simp [Cel.num]
     have h1:Cel.toldB ⟨1,j,0,0⟩ xs=true:=by unfold Cel.toldB; rw [hr,h0,hu,q2X.2 (x2S hr hj)]; rfl
     refine (z4E j (xs.getD j 0) g off len cap xs w p hs hx (by omega) hbw (hc j hj) (by omega) hf hr).mono fun e w' h=>yes h1 ?_;rw [hu]; exact h
   ·
    cases hf:q1W n
    ·
     have h0:Cel.okB ⟨2,0,0,n⟩ xs.length=false:=k2I (by simp [q1W] at hf; simp only; omega);exact (v3C n _ len cap xs w p hs hx hr hf).mono fun e w' h=>no (by simp [Cel.toldB,h0]) h
    ·
     have hf2:=q2X.1 hf;have h0:Cel.okB ⟨2,0,0,n⟩ xs.length=true:=v3X (.inr (.inl ⟨rfl,rfl,rfl,hf2⟩));have hu:Cel.num ⟨2,0,0,n⟩ xs=n:=by simp [Cel.num]
     have h1:Cel.toldB ⟨2,0,0,n⟩ xs=true:=by unfold Cel.toldB; rw [hr,h0,hu,hf]; rfl
     refine (z4D n _ len cap xs w p hs hx hr hf).mono fun e w' h=>yes h1 ?_;rw [hu]; exact h
   ·
    cases hf:(z2U a len&&z2U b len)
    ·
     have h0:Cel.okB ⟨3,a,b,0⟩ xs.length=false:=k2I (by
      rw [Bool.and_eq_false_iff,z3T,z3T,hlen] at hf
      simp only
      omega)
     exact (v3A a b _ len cap xs w p hs hx hr hf).mono fun e w' h=>no (by simp [Cel.toldB,h0]) h
    ·
     have hf2:=hf;rw [Bool.and_eq_true,k2X,k2X] at hf2;obtain ⟨ja,rfl⟩:∃ j:Nat,a=j:=⟨a.toNat,by omega⟩;obtain ⟨jb,rfl⟩:∃ j:Nat,b=j:=⟨b.toNat,by omega⟩;have hja:ja<xs.length:=by omega
     have hjb:jb<xs.length:=by omega
     have h0:Cel.okB ⟨3,ja,jb,0⟩ xs.length=true:=v3X (.inr (.inr ⟨rfl,⟨by simp only; omega,by simp only; omega,by simp only; omega⟩,⟨by simp only; omega,by simp only; omega,by simp only; omega⟩,rfl⟩));have hu:Cel.num ⟨3,ja,jb,0⟩ xs=xs.getD ja 0+xs.getD jb 0:=by simp [Cel.num]
     have ra:=x2S hr hja;have rb:=x2S hr hjb;have hwr:IntKind.i64.wrap (xs.getD ja 0+xs.getD jb 0)=xs.getD ja 0+xs.getD jb 0:=wrap_sum ra rb;cases hcb:q1W (xs.getD ja 0+xs.getD jb 0)
     ·
      have h1:Cel.toldB ⟨3,ja,jb,0⟩ xs=false:=by unfold Cel.toldB; rw [hu,hcb,Bool.and_false]
      exact (z4C ja jb _ _ g off len cap xs w p hs hx (by omega) hbw (hc ja hja) (hc jb hjb) (by omega) (by omega) hf hwr hcb hr).mono fun e w' h=>no h1 h
     ·
      have h1:Cel.toldB ⟨3,ja,jb,0⟩ xs=true:=by unfold Cel.toldB; rw [hr,h0,hu,hcb]; rfl
      refine (x3Y ja jb _ _ g off len cap xs w p hs hx (by omega) hbw (hc ja hja) (hc jb hjb) (by omega) (by omega) hf hwr hcb hr).mono fun e w' h=>yes h1 ?_;rw [hu]; exact h
theorem v3K (c:Cel) (v:Value) (xs:List Int) (w:World) (p:Addr) (hs:v1J w p) (hx:z1E w v xs) :
  Calls Tryz.prog 72 #[.agg #[.int .i64 c.k,.int .i64 c.a,.int .i64 c.b,.int .i64 c.n],v] w fun e w'=>e = .returned (.tuple #[.int .i64 (c.valI xs),.bool (c.toldB xs)])/\Below w.heap.size w w':=by
 obtain ⟨r,HR⟩:∃ r,Hid (r=c.valI xs):=⟨_,Eq.refl _⟩;obtain ⟨t,HT⟩:∃ t,Hid (t=c.toldB xs):=⟨_,Eq.refl _⟩;rw [<-HR.out,<-HT.out];go_enter Tryz.func72,Tryz.ntmps72;go_wp2_with fail;refine (x1K c v xs _ p (hs.below (z1B _)) (hx.below (z1B _))).mono ?_;rintro e w2 ⟨he,hb2⟩;have HB:Hid (Below w.heap.size w w2):=z1A (z1B _) hb2;have hg:=(hs.below HB.out).2;clear hb2 hs hx;rcases he with ⟨h1,rfl⟩ | ⟨h1,rfl⟩
 ·
  have h2:c.valI xs=c.num xs:=by rw [Cel.valI,if_pos h1]
  rw [<-HT.out] at h1;rw [<-HR.out] at h2;rw [<-h2];subst h1;clear h2;go_wp2_with fail;refine (x2H p _).mono ?_;rintro e w3 ⟨rfl,rfl⟩;go_wp2;go_ret2;exact ⟨rfl,HB.out⟩
 ·
  have h2:c.valI xs=0:=by rw [Cel.valI,if_neg (by rw [h1]; decide)]
  rw [<-HT.out] at h1;rw [<-HR.out] at h2;subst h1 h2;go_wp2_with fail;refine (z4V p _).mono ?_;rintro e w3 ⟨rfl,rfl⟩;go_wp2;go_ret2;exact ⟨rfl,HB.out⟩
theorem x5D (no:Bool) (l r:Cel) (wide:Int) (w:World) (hl:l.okB wide=false) :
  Calls Tryz.prog 103 #[.agg #[.int .i64 1,.bool no,.int .i64 l.k,.int .i64 l.a,.int .i64 l.b,.int .i64 l.n,.int .i64 r.k,.int .i64 r.a,.int .i64 r.b,.int .i64 r.n],.int .i64 wide] w fun e w'=>e = .returned (.bool false)/\Below w.heap.size w w':=by
 go_enter Tryz.func103,Tryz.ntmps103;go_wp2_with fail;refine (q1A l _ _).mono ?_;rintro e w1 ⟨rfl,hb1⟩;rw [hl];have B1:Hid (Below w.heap.size w w1):=z1A (z1B _) hb1;clear hb1;go_wp2;go_ret;exact ⟨rfl,B1.out⟩
theorem x5C (no:Bool) (l r:Cel) (wide:Int) (w:World) (hl:l.okB wide=true) (hr:r.okB wide=false) :
  Calls Tryz.prog 103 #[.agg #[.int .i64 1,.bool no,.int .i64 l.k,.int .i64 l.a,.int .i64 l.b,.int .i64 l.n,.int .i64 r.k,.int .i64 r.a,.int .i64 r.b,.int .i64 r.n],.int .i64 wide] w fun e w'=>e = .returned (.bool false)/\Below w.heap.size w w':=by
 go_enter Tryz.func103,Tryz.ntmps103;go_wp2_with fail;refine (q1A l _ _).mono ?_;rintro e w1 ⟨rfl,hb1⟩;rw [hl];have B1:Hid (Below w.heap.size w w1):=z1A (z1B _) hb1;obtain ⟨_,c0,c1,⟨c2,c3,c4,c5⟩,c6,c7,c8,c9⟩:=(q1K.start w ⟨1,no,l,r⟩ _).below hb1;simp only at c0 c1 c2 c3 c4 c5 c6 c7 c8 c9;clear hb1;go_wp2_with fail;refine (q1A r _ _).mono ?_;rintro e w2 ⟨rfl,hb2⟩;rw [hr];have B2:Hid (Below w.heap.size w w2):=z1A B1.out hb2;clear hb2 c0 c1 c2 c3 c4 c5 c6 c7 c8 c9;go_wp2;go_ret;exact ⟨rfl,B2.out⟩
theorem x5B (no:Bool) (l r:Cel) (wide:Int) (w:World) (hl:l.okB wide=true) (hr:r.okB wide=true) :
  Calls Tryz.prog 103 #[.agg #[.int .i64 1,.bool no,.int .i64 l.k,.int .i64 l.a,.int .i64 l.b,.int .i64 l.n,.int .i64 r.k,.int .i64 r.a,.int .i64 r.b,.int .i64 r.n],.int .i64 wide] w fun e w'=>e = .returned (.bool true)/\Below w.heap.size w w':=by
 go_enter Tryz.func103,Tryz.ntmps103;go_wp2_with fail;refine (q1A l _ _).mono ?_;rintro e w1 ⟨rfl,hb1⟩;rw [hl];have B1:Hid (Below w.heap.size w w1):=z1A (z1B _) hb1;obtain ⟨_,c0,c1,⟨c2,c3,c4,c5⟩,c6,c7,c8,c9⟩:=(q1K.start w ⟨1,no,l,r⟩ _).below hb1;simp only at c0 c1 c2 c3 c4 c5 c6 c7 c8 c9;clear hb1;go_wp2_with fail;refine (q1A r _ _).mono ?_;rintro e w2 ⟨rfl,hb2⟩;rw [hr];have B2:Hid (Below w.heap.size w w2):=z1A B1.out hb2;clear hb2 c0 c1 c2 c3 c4 c5 c6 c7 c8 c9;go_wp2;go_ret;exact ⟨rfl,B2.out⟩
theorem x5A (no:Bool) (l r:Cel) (wide:Int) (w:World) (hl:l.okB wide=false) :
  Calls Tryz.prog 103 #[.agg #[.int .i64 2,.bool no,.int .i64 l.k,.int .i64 l.a,.int .i64 l.b,.int .i64 l.n,.int .i64 r.k,.int .i64 r.a,.int .i64 r.b,.int .i64 r.n],.int .i64 wide] w fun e w'=>e = .returned (.bool false)/\Below w.heap.size w w':=by
 go_enter Tryz.func103,Tryz.ntmps103;go_wp2_with fail;refine (q1A l _ _).mono ?_;rintro e w1 ⟨rfl,hb1⟩;rw [hl];have B1:Hid (Below w.heap.size w w1):=z1A (z1B _) hb1;clear hb1;go_wp2;go_ret;exact ⟨rfl,B1.out⟩
theorem j5Z (no:Bool) (l r:Cel) (wide:Int) (w:World) (hl:l.okB wide=true) (hr:r.okB wide=false) :
  Calls Tryz.prog 103 #[.agg #[.int .i64 2,.bool no,.int .i64 l.k,.int .i64 l.a,.int .i64 l.b,.int .i64 l.n,.int .i64 r.k,.int .i64 r.a,.int .i64 r.b,.int .i64 r.n],.int .i64 wide] w fun e w'=>e = .returned (.bool false)/\Below w.heap.size w w':=by
 go_enter Tryz.func103,Tryz.ntmps103;go_wp2_with fail;refine (q1A l _ _).mono ?_;rintro e w1 ⟨rfl,hb1⟩;rw [hl];have B1:Hid (Below w.heap.size w w1):=z1A (z1B _) hb1;obtain ⟨_,c0,c1,⟨c2,c3,c4,c5⟩,c6,c7,c8,c9⟩:=(q1K.start w ⟨2,no,l,r⟩ _).below hb1;simp only at c0 c1 c2 c3 c4 c5 c6 c7 c8 c9;clear hb1;go_wp2_with fail;refine (q1A r _ _).mono ?_;rintro e w2 ⟨rfl,hb2⟩;rw [hr];have B2:Hid (Below w.heap.size w w2):=z1A B1.out hb2;clear hb2 c0 c1 c2 c3 c4 c5 c6 c7 c8 c9;go_wp2;go_ret;exact ⟨rfl,B2.out⟩
theorem j5Y (no:Bool) (l r:Cel) (wide:Int) (w:World) (hl:l.okB wide=true) (hr:r.okB wide=true) :
  Calls Tryz.prog 103 #[.agg #[.int .i64 2,.bool no,.int .i64 l.k,.int .i64 l.a,.int .i64 l.b,.int .i64 l.n,.int .i64 r.k,.int .i64 r.a,.int .i64 r.b,.int .i64 r.n],.int .i64 wide] w fun e w'=>e = .returned (.bool true)/\Below w.heap.size w w':=by
 go_enter Tryz.func103,Tryz.ntmps103;go_wp2_with fail;refine (q1A l _ _).mono ?_;rintro e w1 ⟨rfl,hb1⟩;rw [hl];have B1:Hid (Below w.heap.size w w1):=z1A (z1B _) hb1;obtain ⟨_,c0,c1,⟨c2,c3,c4,c5⟩,c6,c7,c8,c9⟩:=(q1K.start w ⟨2,no,l,r⟩ _).below hb1;simp only at c0 c1 c2 c3 c4 c5 c6 c7 c8 c9;clear hb1;go_wp2_with fail;refine (q1A r _ _).mono ?_;rintro e w2 ⟨rfl,hb2⟩;rw [hr];have B2:Hid (Below w.heap.size w w2):=z1A B1.out hb2;clear hb2 c0 c1 c2 c3 c4 c5 c6 c7 c8 c9;go_wp2;go_ret;exact ⟨rfl,B2.out⟩
theorem j4H (k:Int) (no:Bool) (l r:Cel) (wide:Int) (w:World) (h1:(k==1)=false) (h2:(k==2)=false) :
  Calls Tryz.prog 103 #[.agg #[.int .i64 k,.bool no,.int .i64 l.k,.int .i64 l.a,.int .i64 l.b,.int .i64 l.n,.int .i64 r.k,.int .i64 r.a,.int .i64 r.b,.int .i64 r.n],.int .i64 wide] w fun e w'=>e = .returned (.bool false)/\Below w.heap.size w w':=by
 go_enter Tryz.func103,Tryz.ntmps103;go_wp2;go_ret;exact ⟨rfl,z1B _⟩
theorem q1Q (t:Tst) (wide:Int) (w:World) :
  Calls Tryz.prog 103 #[.agg (t10 t).toArray,.int .i64 wide] w fun e w'=>e = .returned (.bool (t.okB wide))/\Below w.heap.size w w':=by
 obtain ⟨k,no,l,r⟩:=t;simp only [Tst.okB];by_cases h1:k=1
 ·
  subst h1;cases hl:l.okB wide
  ·
   simpa using x5D no l r wide w hl
  ·
   cases hr:r.okB wide
   ·
    simpa using x5C no l r wide w hl hr
   ·
    simpa using x5B no l r wide w hl hr
 ·
  by_cases h2:k=2
  ·
   subst h2;cases hl:l.okB wide
   ·
    simpa using x5A no l r wide w hl
   ·
    cases hr:r.okB wide
    ·
     simpa using j5Z no l r wide w hl hr
    ·
     simpa using j5Y no l r wide w hl hr
  ·
   have hk:decide (k=1\/k=2)=false:=by simp [h1,h2]
   rw [hk];simpa using j4H k no l r wide w (by simpa using h1) (by simpa using h2)
theorem v4T (k:Int) (no:Bool) (l r:Cel) (v:Value) (xs:List Int) (w:World) (hx:z1E w v xs) (ho:z1R xs=false) :
  Calls Tryz.prog 109 #[.agg #[.int .i64 k,.bool no,.int .i64 l.k,.int .i64 l.a,.int .i64 l.b,.int .i64 l.n,.int .i64 r.k,.int .i64 r.a,.int .i64 r.b,.int .i64 r.n],v] w fun e w'=>e = .returned (.tuple #[.bool false,.bool false])/\Below w.heap.size w w':=by
 obtain ⟨s0,len,cap,rfl,hlen⟩:∃ s0 len cap,v = .slice s0 len cap/\len=xs.length:=by
  obtain ⟨_,s0,cap,hv,_⟩:=hx;exact ⟨s0,_,cap,hv,rfl⟩
 have HL:Hid (len=xs.length):=hlen;try rw [<-hlen] at hk
 clear hlen;go_enter Tryz.func109,Tryz.ntmps109;go_wp2_with fail;refine (q1B _ xs _ (hx.below (z1B _))).mono ?_;rintro e w1 ⟨rfl,rfl⟩;rw [ho];go_wp2;go_ret2;exact ⟨rfl,z1B _⟩
theorem x5E (k:Int) (no:Bool) (l r:Cel) (v:Value) (xs:List Int) (w:World) (hx:z1E w v xs) (ho:z1R xs=true) (hk:Tst.okB ⟨k,no,l,r⟩ xs.length=false) :
  Calls Tryz.prog 109 #[.agg #[.int .i64 k,.bool no,.int .i64 l.k,.int .i64 l.a,.int .i64 l.b,.int .i64 l.n,.int .i64 r.k,.int .i64 r.a,.int .i64 r.b,.int .i64 r.n],v] w fun e w'=>e = .returned (.tuple #[.bool false,.bool false])/\Below w.heap.size w w':=by
 obtain ⟨s0,len,cap,rfl,hlen⟩:∃ s0 len cap,v = .slice s0 len cap/\len=xs.length:=by
  obtain ⟨_,s0,cap,hv,_⟩:=hx;exact ⟨s0,_,cap,hv,rfl⟩
 have HL:Hid (len=xs.length):=hlen;try rw [<-hlen] at hk
 clear hlen;go_enter Tryz.func109,Tryz.ntmps109;go_wp2_with fail;refine (q1B _ xs _ (hx.below (z1B _))).mono ?_;rintro e w1 ⟨rfl,rfl⟩;rw [ho];go_wp2_with fail;refine (q1Q ⟨k,no,l,r⟩ _ _).mono ?_;rintro e w2 ⟨rfl,hb2⟩;rw [hk];have B2:Hid (Below w.heap.size w w2):=z1A (z1B _) hb2;have X2:=(q1K.start w ⟨k,no,l,r⟩ _).below hb2;obtain ⟨_,c0,c1,⟨c2,c3,c4,c5⟩,c6,c7,c8,c9⟩:=id X2;have HX2:Hid (q1K w2 w.heap.size ⟨k,no,l,r⟩):=X2;simp only at c0 c1 c2 c3 c4 c5 c6 c7 c8 c9;clear hb2 X2;go_wp2;go_ret2;exact ⟨rfl,B2.out⟩
theorem v4W (no:Bool) (l r:Cel) (v:Value) (xs:List Int) (w:World) (hx:z1E w v xs) (ho:z1R xs=true) (hk:Tst.okB ⟨1,no,l,r⟩ xs.length=true) (hl:l.toldB xs=false) (hr:r.toldB xs=true) :
  Calls Tryz.prog 109 #[.agg #[.int .i64 1,.bool no,.int .i64 l.k,.int .i64 l.a,.int .i64 l.b,.int .i64 l.n,.int .i64 r.k,.int .i64 r.a,.int .i64 r.b,.int .i64 r.n],v] w fun e w'=>e = .returned (.tuple #[.bool false,.bool false])/\Below w.heap.size w w':=by
 obtain ⟨s0,len,cap,rfl,hlen⟩:∃ s0 len cap,v = .slice s0 len cap/\len=xs.length:=by
  obtain ⟨_,s0,cap,hv,_⟩:=hx;exact ⟨s0,_,cap,hv,rfl⟩
 have HL:Hid (len=xs.length):=hlen;try rw [<-hlen] at hk
 clear hlen;go_enter Tryz.func109,Tryz.ntmps109;go_wp2_with fail;refine (q1B _ xs _ (hx.below (z1B _))).mono ?_;rintro e w1 ⟨rfl,rfl⟩;rw [ho];go_wp2_with fail;refine (q1Q ⟨1,no,l,r⟩ _ _).mono ?_;rintro e w2 ⟨rfl,hb2⟩;rw [hk];have B2:Hid (Below w.heap.size w w2):=z1A (z1B _) hb2;have X2:=(q1K.start w ⟨1,no,l,r⟩ _).below hb2;obtain ⟨_,c0,c1,⟨c2,c3,c4,c5⟩,c6,c7,c8,c9⟩:=id X2;have HX2:Hid (q1K w2 w.heap.size ⟨1,no,l,r⟩):=X2;simp only at c0 c1 c2 c3 c4 c5 c6 c7 c8 c9;clear hb2 X2;go_wp2_with fail;refine (z1U l _ xs _ (hx.below B2.out)).mono ?_;rintro e w3 ⟨rfl,hb3⟩;rw [hl];have B3:Hid (Below w.heap.size w w3):=z1A B2.out hb3;have X3:=HX2.out.below hb3;clear c0 c1 c2 c3 c4 c5 c6 c7 c8 c9;obtain ⟨_,c0,c1,⟨c2,c3,c4,c5⟩,c6,c7,c8,c9⟩:=id X3;have HX3:Hid (q1K w3 w.heap.size ⟨1,no,l,r⟩):=X3;simp only at c0 c1 c2 c3 c4 c5 c6 c7 c8 c9;clear hb3 X3;go_wp2_with fail;refine (z1U r _ xs _ (hx.below B3.out)).mono ?_;rintro e w4 ⟨rfl,hb4⟩;rw [hr];have B4:Hid (Below w.heap.size w w4):=z1A B3.out hb4;have X4:=HX3.out.below hb4;clear c0 c1 c2 c3 c4 c5 c6 c7 c8 c9;obtain ⟨_,c0,c1,⟨c2,c3,c4,c5⟩,c6,c7,c8,c9⟩:=id X4;simp only at c0 c1 c2 c3 c4 c5 c6 c7 c8 c9;clear hb4 X4;obtain ⟨x,HXV⟩:∃ x,Hid (x=l.valI xs):=⟨_,Eq.refl _⟩;obtain ⟨y,HYV⟩:∃ y,Hid (y=r.valI xs):=⟨_,Eq.refl _⟩;rw [<-HXV.out,<-HYV.out];go_wp2;go_ret2;exact ⟨rfl,B4.out⟩
theorem v4X (no:Bool) (l r:Cel) (v:Value) (xs:List Int) (w:World) (hx:z1E w v xs) (ho:z1R xs=true) (hk:Tst.okB ⟨1,no,l,r⟩ xs.length=true) (hl:l.toldB xs=false) (hr:r.toldB xs=false) :
  Calls Tryz.prog 109 #[.agg #[.int .i64 1,.bool no,.int .i64 l.k,.int .i64 l.a,.int .i64 l.b,.int .i64 l.n,.int .i64 r.k,.int .i64 r.a,.int .i64 r.b,.int .i64 r.n],v] w fun e w'=>e = .returned (.tuple #[.bool false,.bool false])/\Below w.heap.size w w':=by
 obtain ⟨s0,len,cap,rfl,hlen⟩:∃ s0 len cap,v = .slice s0 len cap/\len=xs.length:=by
  obtain ⟨_,s0,cap,hv,_⟩:=hx;exact ⟨s0,_,cap,hv,rfl⟩
 have HL:Hid (len=xs.length):=hlen;try rw [<-hlen] at hk
 clear hlen;go_enter Tryz.func109,Tryz.ntmps109;go_wp2_with fail;refine (q1B _ xs _ (hx.below (z1B _))).mono ?_;rintro e w1 ⟨rfl,rfl⟩;rw [ho];go_wp2_with fail;refine (q1Q ⟨1,no,l,r⟩ _ _).mono ?_;rintro e w2 ⟨rfl,hb2⟩;rw [hk];have B2:Hid (Below w.heap.size w w2):=z1A (z1B _) hb2;have X2:=(q1K.start w ⟨1,no,l,r⟩ _).below hb2;obtain ⟨_,c0,c1,⟨c2,c3,c4,c5⟩,c6,c7,c8,c9⟩:=id X2;have HX2:Hid (q1K w2 w.heap.size ⟨1,no,l,r⟩):=X2;simp only at c0 c1 c2 c3 c4 c5 c6 c7 c8 c9;clear hb2 X2;go_wp2_with fail;refine (z1U l _ xs _ (hx.below B2.out)).mono ?_;rintro e w3 ⟨rfl,hb3⟩;rw [hl];have B3:Hid (Below w.heap.size w w3):=z1A B2.out hb3;have X3:=HX2.out.below hb3;clear c0 c1 c2 c3 c4 c5 c6 c7 c8 c9;obtain ⟨_,c0,c1,⟨c2,c3,c4,c5⟩,c6,c7,c8,c9⟩:=id X3;have HX3:Hid (q1K w3 w.heap.size ⟨1,no,l,r⟩):=X3;simp only at c0 c1 c2 c3 c4 c5 c6 c7 c8 c9;clear hb3 X3;go_wp2_with fail;refine (z1U r _ xs _ (hx.below B3.out)).mono ?_;rintro e w4 ⟨rfl,hb4⟩;rw [hr];have B4:Hid (Below w.heap.size w w4):=z1A B3.out hb4;have X4:=HX3.out.below hb4;clear c0 c1 c2 c3 c4 c5 c6 c7 c8 c9;obtain ⟨_,c0,c1,⟨c2,c3,c4,c5⟩,c6,c7,c8,c9⟩:=id X4;simp only at c0 c1 c2 c3 c4 c5 c6 c7 c8 c9;clear hb4 X4;obtain ⟨x,HXV⟩:∃ x,Hid (x=l.valI xs):=⟨_,Eq.refl _⟩;obtain ⟨y,HYV⟩:∃ y,Hid (y=r.valI xs):=⟨_,Eq.refl _⟩;rw [<-HXV.out,<-HYV.out];go_wp2;go_ret2;exact ⟨rfl,B4.out⟩
theorem x5I (no:Bool) (l r:Cel) (v:Value) (xs:List Int) (w:World) (hx:z1E w v xs) (ho:z1R xs=true) (hk:Tst.okB ⟨1,no,l,r⟩ xs.length=true) (hl:l.toldB xs=true) (hr:r.toldB xs=false) :
  Calls Tryz.prog 109 #[.agg #[.int .i64 1,.bool no,.int .i64 l.k,.int .i64 l.a,.int .i64 l.b,.int .i64 l.n,.int .i64 r.k,.int .i64 r.a,.int .i64 r.b,.int .i64 r.n],v] w fun e w'=>e = .returned (.tuple #[.bool false,.bool false])/\Below w.heap.size w w':=by
 obtain ⟨s0,len,cap,rfl,hlen⟩:∃ s0 len cap,v = .slice s0 len cap/\len=xs.length:=by
  obtain ⟨_,s0,cap,hv,_⟩:=hx;exact ⟨s0,_,cap,hv,rfl⟩
 have HL:Hid (len=xs.length):=hlen;try rw [<-hlen] at hk
 clear hlen;go_enter Tryz.func109,Tryz.ntmps109;go_wp2_with fail;refine (q1B _ xs _ (hx.below (z1B _))).mono ?_;rintro e w1 ⟨rfl,rfl⟩;rw [ho];go_wp2_with fail;refine (q1Q ⟨1,no,l,r⟩ _ _).mono ?_;rintro e w2 ⟨rfl,hb2⟩;rw [hk];have B2:Hid (Below w.heap.size w w2):=z1A (z1B _) hb2;have X2:=(q1K.start w ⟨1,no,l,r⟩ _).below hb2;obtain ⟨_,c0,c1,⟨c2,c3,c4,c5⟩,c6,c7,c8,c9⟩:=id X2;have HX2:Hid (q1K w2 w.heap.size ⟨1,no,l,r⟩):=X2;simp only at c0 c1 c2 c3 c4 c5 c6 c7 c8 c9;clear hb2 X2;go_wp2_with fail;refine (z1U l _ xs _ (hx.below B2.out)).mono ?_;rintro e w3 ⟨rfl,hb3⟩;rw [hl];have B3:Hid (Below w.heap.size w w3):=z1A B2.out hb3;have X3:=HX2.out.below hb3;clear c0 c1 c2 c3 c4 c5 c6 c7 c8 c9;obtain ⟨_,c0,c1,⟨c2,c3,c4,c5⟩,c6,c7,c8,c9⟩:=id X3;have HX3:Hid (q1K w3 w.heap.size ⟨1,no,l,r⟩):=X3;simp only at c0 c1 c2 c3 c4 c5 c6 c7 c8 c9;clear hb3 X3;go_wp2_with fail;refine (z1U r _ xs _ (hx.below B3.out)).mono ?_;rintro e w4 ⟨rfl,hb4⟩;rw [hr];have B4:Hid (Below w.heap.size w w4):=z1A B3.out hb4;have X4:=HX3.out.below hb4;clear c0 c1 c2 c3 c4 c5 c6 c7 c8 c9;obtain ⟨_,c0,c1,⟨c2,c3,c4,c5⟩,c6,c7,c8,c9⟩:=id X4;simp only at c0 c1 c2 c3 c4 c5 c6 c7 c8 c9;clear hb4 X4;obtain ⟨x,HXV⟩:∃ x,Hid (x=l.valI xs):=⟨_,Eq.refl _⟩;obtain ⟨y,HYV⟩:∃ y,Hid (y=r.valI xs):=⟨_,Eq.refl _⟩;rw [<-HXV.out,<-HYV.out];go_wp2;go_ret2;exact ⟨rfl,B4.out⟩
theorem x5H (no:Bool) (l r:Cel) (v:Value) (xs:List Int) (w:World) (hx:z1E w v xs) (ho:z1R xs=true) (hk:Tst.okB ⟨1,no,l,r⟩ xs.length=true) (hl:l.toldB xs=true) (hr:r.toldB xs=true) :
  Calls Tryz.prog 109 #[.agg #[.int .i64 1,.bool no,.int .i64 l.k,.int .i64 l.a,.int .i64 l.b,.int .i64 l.n,.int .i64 r.k,.int .i64 r.a,.int .i64 r.b,.int .i64 r.n],v] w fun e w'=>e = .returned (.tuple #[.bool (decide (l.valI xs<r.valI xs) != no),.bool true])/\Below w.heap.size w w':=by
 obtain ⟨s0,len,cap,rfl,hlen⟩:∃ s0 len cap,v = .slice s0 len cap/\len=xs.length:=by
  obtain ⟨_,s0,cap,hv,_⟩:=hx;exact ⟨s0,_,cap,hv,rfl⟩
 have HL:Hid (len=xs.length):=hlen;try rw [<-hlen] at hk
 clear hlen;go_enter Tryz.func109,Tryz.ntmps109;go_wp2_with fail;refine (q1B _ xs _ (hx.below (z1B _))).mono ?_;rintro e w1 ⟨rfl,rfl⟩;rw [ho];go_wp2_with fail;refine (q1Q ⟨1,no,l,r⟩ _ _).mono ?_;rintro e w2 ⟨rfl,hb2⟩;rw [hk];have B2:Hid (Below w.heap.size w w2):=z1A (z1B _) hb2;have X2:=(q1K.start w ⟨1,no,l,r⟩ _).below hb2;obtain ⟨_,c0,c1,⟨c2,c3,c4,c5⟩,c6,c7,c8,c9⟩:=id X2;have HX2:Hid (q1K w2 w.heap.size ⟨1,no,l,r⟩):=X2;simp only at c0 c1 c2 c3 c4 c5 c6 c7 c8 c9;clear hb2 X2;go_wp2_with fail;refine (z1U l _ xs _ (hx.below B2.out)).mono ?_;rintro e w3 ⟨rfl,hb3⟩;rw [hl];have B3:Hid (Below w.heap.size w w3):=z1A B2.out hb3;have X3:=HX2.out.below hb3;clear c0 c1 c2 c3 c4 c5 c6 c7 c8 c9;obtain ⟨_,c0,c1,⟨c2,c3,c4,c5⟩,c6,c7,c8,c9⟩:=id X3;have HX3:Hid (q1K w3 w.heap.size ⟨1,no,l,r⟩):=X3;simp only at c0 c1 c2 c3 c4 c5 c6 c7 c8 c9;clear hb3 X3;go_wp2_with fail;refine (z1U r _ xs _ (hx.below B3.out)).mono ?_;rintro e w4 ⟨rfl,hb4⟩;rw [hr];have B4:Hid (Below w.heap.size w w4):=z1A B3.out hb4;have X4:=HX3.out.below hb4;clear c0 c1 c2 c3 c4 c5 c6 c7 c8 c9;obtain ⟨_,c0,c1,⟨c2,c3,c4,c5⟩,c6,c7,c8,c9⟩:=id X4;simp only at c0 c1 c2 c3 c4 c5 c6 c7 c8 c9;clear hb4 X4;obtain ⟨x,HXV⟩:∃ x,Hid (x=l.valI xs):=⟨_,Eq.refl _⟩;obtain ⟨y,HYV⟩:∃ y,Hid (y=r.valI xs):=⟨_,Eq.refl _⟩;rw [<-HXV.out,<-HYV.out];go_wp2;go_ret2;exact ⟨by rw [<-HXV.out,<-HYV.out]; rfl,B4.out⟩
theorem v4U (no:Bool) (l r:Cel) (v:Value) (xs:List Int) (w:World) (hx:z1E w v xs) (ho:z1R xs=true) (hk:Tst.okB ⟨2,no,l,r⟩ xs.length=true) (hl:l.toldB xs=false) (hr:r.toldB xs=true) :
  Calls Tryz.prog 109 #[.agg #[.int .i64 2,.bool no,.int .i64 l.k,.int .i64 l.a,.int .i64 l.b,.int .i64 l.n,.int .i64 r.k,.int .i64 r.a,.int .i64 r.b,.int .i64 r.n],v] w fun e w'=>e = .returned (.tuple #[.bool false,.bool false])/\Below w.heap.size w w':=by
 obtain ⟨s0,len,cap,rfl,hlen⟩:∃ s0 len cap,v = .slice s0 len cap/\len=xs.length:=by
  obtain ⟨_,s0,cap,hv,_⟩:=hx;exact ⟨s0,_,cap,hv,rfl⟩
 have HL:Hid (len=xs.length):=hlen;try rw [<-hlen] at hk
 clear hlen;go_enter Tryz.func109,Tryz.ntmps109;go_wp2_with fail;refine (q1B _ xs _ (hx.below (z1B _))).mono ?_;rintro e w1 ⟨rfl,rfl⟩;rw [ho];go_wp2_with fail;refine (q1Q ⟨2,no,l,r⟩ _ _).mono ?_;rintro e w2 ⟨rfl,hb2⟩;rw [hk];have B2:Hid (Below w.heap.size w w2):=z1A (z1B _) hb2;have X2:=(q1K.start w ⟨2,no,l,r⟩ _).below hb2;obtain ⟨_,c0,c1,⟨c2,c3,c4,c5⟩,c6,c7,c8,c9⟩:=id X2;have HX2:Hid (q1K w2 w.heap.size ⟨2,no,l,r⟩):=X2;simp only at c0 c1 c2 c3 c4 c5 c6 c7 c8 c9;clear hb2 X2;go_wp2_with fail;refine (z1U l _ xs _ (hx.below B2.out)).mono ?_;rintro e w3 ⟨rfl,hb3⟩;rw [hl];have B3:Hid (Below w.heap.size w w3):=z1A B2.out hb3;have X3:=HX2.out.below hb3;clear c0 c1 c2 c3 c4 c5 c6 c7 c8 c9;obtain ⟨_,c0,c1,⟨c2,c3,c4,c5⟩,c6,c7,c8,c9⟩:=id X3;have HX3:Hid (q1K w3 w.heap.size ⟨2,no,l,r⟩):=X3;simp only at c0 c1 c2 c3 c4 c5 c6 c7 c8 c9;clear hb3 X3;go_wp2_with fail;refine (z1U r _ xs _ (hx.below B3.out)).mono ?_;rintro e w4 ⟨rfl,hb4⟩;rw [hr];have B4:Hid (Below w.heap.size w w4):=z1A B3.out hb4;have X4:=HX3.out.below hb4;clear c0 c1 c2 c3 c4 c5 c6 c7 c8 c9;obtain ⟨_,c0,c1,⟨c2,c3,c4,c5⟩,c6,c7,c8,c9⟩:=id X4;simp only at c0 c1 c2 c3 c4 c5 c6 c7 c8 c9;clear hb4 X4;obtain ⟨x,HXV⟩:∃ x,Hid (x=l.valI xs):=⟨_,Eq.refl _⟩;obtain ⟨y,HYV⟩:∃ y,Hid (y=r.valI xs):=⟨_,Eq.refl _⟩;rw [<-HXV.out,<-HYV.out];go_wp2;go_ret2;exact ⟨rfl,B4.out⟩
theorem v4V (no:Bool) (l r:Cel) (v:Value) (xs:List Int) (w:World) (hx:z1E w v xs) (ho:z1R xs=true) (hk:Tst.okB ⟨2,no,l,r⟩ xs.length=true) (hl:l.toldB xs=false) (hr:r.toldB xs=false) :
  Calls Tryz.prog 109 #[.agg #[.int .i64 2,.bool no,.int .i64 l.k,.int .i64 l.a,.int .i64 l.b,.int .i64 l.n,.int .i64 r.k,.int .i64 r.a,.int .i64 r.b,.int .i64 r.n],v] w fun e w'=>e = .returned (.tuple #[.bool false,.bool false])/\Below w.heap.size w w':=by
 obtain ⟨s0,len,cap,rfl,hlen⟩:∃ s0 len cap,v = .slice s0 len cap/\len=xs.length:=by
  obtain ⟨_,s0,cap,hv,_⟩:=hx;exact ⟨s0,_,cap,hv,rfl⟩
 have HL:Hid (len=xs.length):=hlen;try rw [<-hlen] at hk
 clear hlen;go_enter Tryz.func109,Tryz.ntmps109;go_wp2_with fail;refine (q1B _ xs _ (hx.below (z1B _))).mono ?_;rintro e w1 ⟨rfl,rfl⟩;rw [ho];go_wp2_with fail;refine (q1Q ⟨2,no,l,r⟩ _ _).mono ?_;rintro e w2 ⟨rfl,hb2⟩;rw [hk];have B2:Hid (Below w.heap.size w w2):=z1A (z1B _) hb2;have X2:=(q1K.start w ⟨2,no,l,r⟩ _).below hb2;obtain ⟨_,c0,c1,⟨c2,c3,c4,c5⟩,c6,c7,c8,c9⟩:=id X2;have HX2:Hid (q1K w2 w.heap.size ⟨2,no,l,r⟩):=X2;simp only at c0 c1 c2 c3 c4 c5 c6 c7 c8 c9;clear hb2 X2;go_wp2_with fail;refine (z1U l _ xs _ (hx.below B2.out)).mono ?_;rintro e w3 ⟨rfl,hb3⟩;rw [hl];have B3:Hid (Below w.heap.size w w3):=z1A B2.out hb3;have X3:=HX2.out.below hb3;clear c0 c1 c2 c3 c4 c5 c6 c7 c8 c9;obtain ⟨_,c0,c1,⟨c2,c3,c4,c5⟩,c6,c7,c8,c9⟩:=id X3;have HX3:Hid (q1K w3 w.heap.size ⟨2,no,l,r⟩):=X3;simp only at c0 c1 c2 c3 c4 c5 c6 c7 c8 c9;clear hb3 X3;go_wp2_with fail;refine (z1U r _ xs _ (hx.below B3.out)).mono ?_;rintro e w4 ⟨rfl,hb4⟩;rw [hr];have B4:Hid (Below w.heap.size w w4):=z1A B3.out hb4;have X4:=HX3.out.below hb4;clear c0 c1 c2 c3 c4 c5 c6 c7 c8 c9;obtain ⟨_,c0,c1,⟨c2,c3,c4,c5⟩,c6,c7,c8,c9⟩:=id X4;simp only at c0 c1 c2 c3 c4 c5 c6 c7 c8 c9;clear hb4 X4;obtain ⟨x,HXV⟩:∃ x,Hid (x=l.valI xs):=⟨_,Eq.refl _⟩;obtain ⟨y,HYV⟩:∃ y,Hid (y=r.valI xs):=⟨_,Eq.refl _⟩;rw [<-HXV.out,<-HYV.out];go_wp2;go_ret2;exact ⟨rfl,B4.out⟩
theorem x5G (no:Bool) (l r:Cel) (v:Value) (xs:List Int) (w:World) (hx:z1E w v xs) (ho:z1R xs=true) (hk:Tst.okB ⟨2,no,l,r⟩ xs.length=true) (hl:l.toldB xs=true) (hr:r.toldB xs=false) :
  Calls Tryz.prog 109 #[.agg #[.int .i64 2,.bool no,.int .i64 l.k,.int .i64 l.a,.int .i64 l.b,.int .i64 l.n,.int .i64 r.k,.int .i64 r.a,.int .i64 r.b,.int .i64 r.n],v] w fun e w'=>e = .returned (.tuple #[.bool false,.bool false])/\Below w.heap.size w w':=by
 obtain ⟨s0,len,cap,rfl,hlen⟩:∃ s0 len cap,v = .slice s0 len cap/\len=xs.length:=by
  obtain ⟨_,s0,cap,hv,_⟩:=hx;exact ⟨s0,_,cap,hv,rfl⟩
 have HL:Hid (len=xs.length):=hlen;try rw [<-hlen] at hk
 clear hlen;go_enter Tryz.func109,Tryz.ntmps109;go_wp2_with fail;refine (q1B _ xs _ (hx.below (z1B _))).mono ?_;rintro e w1 ⟨rfl,rfl⟩;rw [ho];go_wp2_with fail;refine (q1Q ⟨2,no,l,r⟩ _ _).mono ?_;rintro e w2 ⟨rfl,hb2⟩;rw [hk];have B2:Hid (Below w.heap.size w w2):=z1A (z1B _) hb2;have X2:=(q1K.start w ⟨2,no,l,r⟩ _).below hb2;obtain ⟨_,c0,c1,⟨c2,c3,c4,c5⟩,c6,c7,c8,c9⟩:=id X2;have HX2:Hid (q1K w2 w.heap.size ⟨2,no,l,r⟩):=X2;simp only at c0 c1 c2 c3 c4 c5 c6 c7 c8 c9;clear hb2 X2;go_wp2_with fail;refine (z1U l _ xs _ (hx.below B2.out)).mono ?_;rintro e w3 ⟨rfl,hb3⟩;rw [hl];have B3:Hid (Below w.heap.size w w3):=z1A B2.out hb3;have X3:=HX2.out.below hb3;clear c0 c1 c2 c3 c4 c5 c6 c7 c8 c9;obtain ⟨_,c0,c1,⟨c2,c3,c4,c5⟩,c6,c7,c8,c9⟩:=id X3;have HX3:Hid (q1K w3 w.heap.size ⟨2,no,l,r⟩):=X3;simp only at c0 c1 c2 c3 c4 c5 c6 c7 c8 c9;clear hb3 X3;go_wp2_with fail;refine (z1U r _ xs _ (hx.below B3.out)).mono ?_;rintro e w4 ⟨rfl,hb4⟩;rw [hr];have B4:Hid (Below w.heap.size w w4):=z1A B3.out hb4;have X4:=HX3.out.below hb4;clear c0 c1 c2 c3 c4 c5 c6 c7 c8 c9;obtain ⟨_,c0,c1,⟨c2,c3,c4,c5⟩,c6,c7,c8,c9⟩:=id X4;simp only at c0 c1 c2 c3 c4 c5 c6 c7 c8 c9;clear hb4 X4;obtain ⟨x,HXV⟩:∃ x,Hid (x=l.valI xs):=⟨_,Eq.refl _⟩;obtain ⟨y,HYV⟩:∃ y,Hid (y=r.valI xs):=⟨_,Eq.refl _⟩;rw [<-HXV.out,<-HYV.out];go_wp2;go_ret2;exact ⟨rfl,B4.out⟩
theorem x5F (no:Bool) (l r:Cel) (v:Value) (xs:List Int) (w:World) (hx:z1E w v xs) (ho:z1R xs=true) (hk:Tst.okB ⟨2,no,l,r⟩ xs.length=true) (hl:l.toldB xs=true) (hr:r.toldB xs=true) :
  Calls Tryz.prog 109 #[.agg #[.int .i64 2,.bool no,.int .i64 l.k,.int .i64 l.a,.int .i64 l.b,.int .i64 l.n,.int .i64 r.k,.int .i64 r.a,.int .i64 r.b,.int .i64 r.n],v] w fun e w'=>e = .returned (.tuple #[.bool ((l.valI xs==r.valI xs) != no),.bool true])/\Below w.heap.size w w':=by
 obtain ⟨s0,len,cap,rfl,hlen⟩:∃ s0 len cap,v = .slice s0 len cap/\len=xs.length:=by
  obtain ⟨_,s0,cap,hv,_⟩:=hx;exact ⟨s0,_,cap,hv,rfl⟩
 have HL:Hid (len=xs.length):=hlen;try rw [<-hlen] at hk
 clear hlen;go_enter Tryz.func109,Tryz.ntmps109;go_wp2_with fail;refine (q1B _ xs _ (hx.below (z1B _))).mono ?_;rintro e w1 ⟨rfl,rfl⟩;rw [ho];go_wp2_with fail;refine (q1Q ⟨2,no,l,r⟩ _ _).mono ?_;rintro e w2 ⟨rfl,hb2⟩;rw [hk];have B2:Hid (Below w.heap.size w w2):=z1A (z1B _) hb2;have X2:=(q1K.start w ⟨2,no,l,r⟩ _).below hb2;obtain ⟨_,c0,c1,⟨c2,c3,c4,c5⟩,c6,c7,c8,c9⟩:=id X2;have HX2:Hid (q1K w2 w.heap.size ⟨2,no,l,r⟩):=X2;simp only at c0 c1 c2 c3 c4 c5 c6 c7 c8 c9;clear hb2 X2;go_wp2_with fail;refine (z1U l _ xs _ (hx.below B2.out)).mono ?_;rintro e w3 ⟨rfl,hb3⟩;rw [hl];have B3:Hid (Below w.heap.size w w3):=z1A B2.out hb3;have X3:=HX2.out.below hb3;clear c0 c1 c2 c3 c4 c5 c6 c7 c8 c9;obtain ⟨_,c0,c1,⟨c2,c3,c4,c5⟩,c6,c7,c8,c9⟩:=id X3;have HX3:Hid (q1K w3 w.heap.size ⟨2,no,l,r⟩):=X3;simp only at c0 c1 c2 c3 c4 c5 c6 c7 c8 c9;clear hb3 X3;go_wp2_with fail;refine (z1U r _ xs _ (hx.below B3.out)).mono ?_;rintro e w4 ⟨rfl,hb4⟩;rw [hr];have B4:Hid (Below w.heap.size w w4):=z1A B3.out hb4;have X4:=HX3.out.below hb4;clear c0 c1 c2 c3 c4 c5 c6 c7 c8 c9;obtain ⟨_,c0,c1,⟨c2,c3,c4,c5⟩,c6,c7,c8,c9⟩:=id X4;simp only at c0 c1 c2 c3 c4 c5 c6 c7 c8 c9;clear hb4 X4;obtain ⟨x,HXV⟩:∃ x,Hid (x=l.valI xs):=⟨_,Eq.refl _⟩;obtain ⟨y,HYV⟩:∃ y,Hid (y=r.valI xs):=⟨_,Eq.refl _⟩;rw [<-HXV.out,<-HYV.out];go_wp2;go_ret2;exact ⟨by rw [<-HXV.out,<-HYV.out]; rfl,B4.out⟩
theorem v4K {c:Cel} {xs:List Int} (h:c.toldB xs=true):z1R xs=true/\c.okB xs.length=true:=by
 unfold Cel.toldB at h;simp only [Bool.and_eq_true] at h;exact h.1
theorem x3V (t:Tst) (v:Value) (xs:List Int) (w:World) (hx:z1E w v xs) :
  Calls Tryz.prog 109 #[.agg #[.int .i64 t.k,.bool t.no,.int .i64 t.l.k,.int .i64 t.l.a,.int .i64 t.l.b,.int .i64 t.l.n,.int .i64 t.r.k,.int .i64 t.r.a,.int .i64 t.r.b,.int .i64 t.r.n],v] w fun e w'=>e = .returned (.tuple #[.bool (t.valB xs),.bool (t.toldB xs)])/\Below w.heap.size w w':=by
 obtain ⟨k,no,l,r⟩:=t;simp only;by_cases ht:Tst.toldB ⟨k,no,l,r⟩ xs=true
 ·
  have ht2:=ht;simp only [Tst.toldB,Bool.and_eq_true,decide_eq_true_eq] at ht2;obtain ⟨⟨hk,hl⟩,hr⟩:=ht2;have ho:=(v4K hl).1;have hok:Tst.okB ⟨k,no,l,r⟩ xs.length=true:=by simp [Tst.okB,hk,(v4K hl).2,(v4K hr).2]
  have el:l.valI xs=l.num xs:=by rw [Cel.valI,if_pos hl]
  have er:r.valI xs=r.num xs:=by rw [Cel.valI,if_pos hr]
  have hv:Tst.valB ⟨k,no,l,r⟩ xs=Tst.holdsB ⟨k,no,l,r⟩ xs:=by rw [Tst.valB,ht,Bool.true_and]
  rw [ht,hv];rcases hk with rfl | rfl
  ·
   have:=x5H no l r v xs w hx ho hok hl hr;rw [el,er] at this;simpa [Tst.holdsB] using this
  ·
   have:=x5F no l r v xs w hx ho hok hl hr;rw [el,er] at this;have hb:(l.num xs==r.num xs)=decide (l.num xs=r.num xs):=by by_cases h:l.num xs=r.num xs <;> simp [h]
   rw [hb] at this;simpa [Tst.holdsB] using this
 ·
  have hf:Tst.toldB ⟨k,no,l,r⟩ xs=false:=by simpa using ht
  have hv:Tst.valB ⟨k,no,l,r⟩ xs=false:=by rw [Tst.valB,hf,Bool.false_and]
  rw [hf,hv];cases ho:z1R xs
  ·
   exact v4T k no l r v xs w hx ho
  ·
   cases hok:Tst.okB ⟨k,no,l,r⟩ xs.length
   ·
    exact x5E k no l r v xs w hx ho hok
   ·
    have hk:k=1\/k=2:=by simp only [Tst.okB,Bool.and_eq_true,decide_eq_true_eq] at hok; exact hok.1.1
    have hlr:l.toldB xs=false\/(l.toldB xs=true/\r.toldB xs=false):=by
     cases hl:l.toldB xs
     ·
      exact .inl rfl
     ·
      cases hr:r.toldB xs
      ·
       exact .inr ⟨rfl,rfl⟩
      ·
       exact absurd (by simp [Tst.toldB,hk,hl,hr]) ht
    rcases hk with rfl | rfl
    ·
     rcases hlr with hl | ⟨hl,hr⟩
     ·
      cases hr:r.toldB xs
      ·
       exact v4X no l r v xs w hx ho hok hl hr
      ·
       exact v4W no l r v xs w hx ho hok hl hr
     ·
      exact x5I no l r v xs w hx ho hok hl hr
    ·
     rcases hlr with hl | ⟨hl,hr⟩
     ·
      cases hr:r.toldB xs
      ·
       exact v4V no l r v xs w hx ho hok hl hr
      ·
       exact v4U no l r v xs w hx ho hok hl hr
     ·
      exact x5G no l r v xs w hx ho hok hl hr
theorem x2U (w:World):Calls Tryz.prog 120 #[.int .i64 1] w fun e w'=>e = .returned (.tuple #[.iface 191 (.agg #[]),.nilIface])/\Below w.heap.size w w':=by
 go_enter Tryz.func120,Tryz.ntmps120;go_wp2;go_ret2;exact ⟨rfl,Below.refl _ _⟩
theorem x2T (w:World):Calls Tryz.prog 120 #[.int .i64 2] w fun e w'=>e = .returned (.tuple #[.iface 192 (.agg #[]),.nilIface])/\Below w.heap.size w w':=by
 go_enter Tryz.func120,Tryz.ntmps120;go_wp2;go_ret2;exact ⟨rfl,Below.refl _ _⟩
theorem q5E (k:Int) (w:World) (p:Addr) (hs:v1J w p) (h1:(k==1)=false) (h2:(k==2)=false):Calls Tryz.prog 120 #[.int .i64 k] w fun e w'=>e = .returned (.tuple #[.nilIface,.iface 248 (.pointer (some p))])/\Below w.heap.size w w':=by
 have hg:=hs.2;clear hs;go_enter Tryz.func120,Tryz.ntmps120;go_wp2;go_quiet (fail)
 go_wp2;go_ret2;exact ⟨rfl,below_drewN (Below.refl _ _) _⟩
theorem z5M.yes {c:Cel} {xs:List Int} {p:Addr} {e:Ending} (h:z5M c xs p e) (ht:c.toldB xs=true):e = .returned (.tuple #[.int .i64 (c.num xs),.nilIface]):=by
 rcases h with ⟨_,he⟩ | ⟨hf,_⟩
 ·
  exact he
 ·
  rw [hf] at ht; cases ht
theorem z5M.no {c:Cel} {xs:List Int} {p:Addr} {e:Ending} (h:z5M c xs p e) (ht:c.toldB xs=false):e = .returned (.tuple #[.int .i64 0,.iface 248 (.pointer (some p))]):=by
 rcases h with ⟨hf,_⟩ | ⟨_,he⟩
 ·
  rw [hf] at ht; cases ht
 ·
  exact he
theorem x4P (k:Int) (no:Bool) (l r:Cel) (wide:Int) (w:World) (p:Addr) (hs:v1J w p) (h1:(k==1)=false) (h2:(k==2)=false) :
  Calls Tryz.prog 210 #[.agg #[.int .i64 k,.bool no,.int .i64 l.k,.int .i64 l.a,.int .i64 l.b,.int .i64 l.n,.int .i64 r.k,.int .i64 r.a,.int .i64 r.b,.int .i64 r.n],.int .i64 wide] w fun e w'=>e = .returned (.bool false)/\Below w.heap.size w w':=by
 go_enter Tryz.func210,Tryz.ntmps210;go_wp2_with fail;refine (q5E k _ p (hs.below (z1B _)) h1 h2).mono ?_;rintro e w1 ⟨rfl,hb1⟩;have B1:Hid (Below w.heap.size w w1):=z1A (z1B _) hb1;have X1:=(q1K.start w ⟨k,no,l,r⟩ _).below hb1;obtain ⟨_,c0,c1,⟨c2,c3,c4,c5⟩,c6,c7,c8,c9⟩:=id X1;have HX1:Hid (q1K w1 w.heap.size ⟨k,no,l,r⟩):=X1;simp only at c0 c1 c2 c3 c4 c5 c6 c7 c8 c9;have hg:=(hs.below B1.out).2;clear hb1 X1;go_wp2_with fail;refine (z4V p _).mono ?_;rintro e w2 ⟨rfl,rfl⟩;go_wp2;go_ret;exact ⟨rfl,B1.out⟩
theorem v5M (no:Bool) (l r:Cel) (wide:Int) (w:World) (p:Addr) (hs:v1J w p) (hl:l.okB wide=false) :
  Calls Tryz.prog 210 #[.agg #[.int .i64 1,.bool no,.int .i64 l.k,.int .i64 l.a,.int .i64 l.b,.int .i64 l.n,.int .i64 r.k,.int .i64 r.a,.int .i64 r.b,.int .i64 r.n],.int .i64 wide] w fun e w'=>e = .returned (.bool false)/\Below w.heap.size w w':=by
 go_enter Tryz.func210,Tryz.ntmps210;go_wp2_with fail;refine (x2U _).mono ?_;rintro e w1 ⟨rfl,hb1⟩;have B1:Hid (Below w.heap.size w w1):=z1A (z1B _) hb1;have X1:=(q1K.start w ⟨1,no,l,r⟩ _).below hb1;obtain ⟨_,c0,c1,⟨c2,c3,c4,c5⟩,c6,c7,c8,c9⟩:=id X1;have HX1:Hid (q1K w1 w.heap.size ⟨1,no,l,r⟩):=X1;simp only at c0 c1 c2 c3 c4 c5 c6 c7 c8 c9;have hg:=(hs.below B1.out).2;clear hb1 X1;go_wp2_with fail;refine (x2H p _).mono ?_;rintro e w2 ⟨rfl,rfl⟩;go_wp2_with fail;refine (q1R l _ _ p (hs.below B1.out)).mono ?_;rintro e w3 ⟨rfl,hb3⟩;rw [hl];have B3:Hid (Below w.heap.size w w3):=z1A B1.out hb3;clear hb3 c0 c1 c2 c3 c4 c5 c6 c7 c8 c9 hg;go_wp2;go_ret;exact ⟨rfl,B3.out⟩
theorem v5L (no:Bool) (l r:Cel) (wide:Int) (w:World) (p:Addr) (hs:v1J w p) (hl:l.okB wide=true) (hr:r.okB wide=false) :
  Calls Tryz.prog 210 #[.agg #[.int .i64 1,.bool no,.int .i64 l.k,.int .i64 l.a,.int .i64 l.b,.int .i64 l.n,.int .i64 r.k,.int .i64 r.a,.int .i64 r.b,.int .i64 r.n],.int .i64 wide] w fun e w'=>e = .returned (.bool false)/\Below w.heap.size w w':=by
 go_enter Tryz.func210,Tryz.ntmps210;go_wp2_with fail;refine (x2U _).mono ?_;rintro e w1 ⟨rfl,hb1⟩;have B1:Hid (Below w.heap.size w w1):=z1A (z1B _) hb1;have X1:=(q1K.start w ⟨1,no,l,r⟩ _).below hb1;obtain ⟨_,c0,c1,⟨c2,c3,c4,c5⟩,c6,c7,c8,c9⟩:=id X1;have HX1:Hid (q1K w1 w.heap.size ⟨1,no,l,r⟩):=X1;simp only at c0 c1 c2 c3 c4 c5 c6 c7 c8 c9;have hg:=(hs.below B1.out).2;clear hb1 X1;go_wp2_with fail;refine (x2H p _).mono ?_;rintro e w2 ⟨rfl,rfl⟩;go_wp2_with fail;refine (q1R l _ _ p (hs.below B1.out)).mono ?_;rintro e w3 ⟨rfl,hb3⟩;rw [hl];have B3:Hid (Below w.heap.size w w3):=z1A B1.out hb3;have X3:=HX1.out.below hb3;clear c0 c1 c2 c3 c4 c5 c6 c7 c8 c9 hg;obtain ⟨_,c0,c1,⟨c2,c3,c4,c5⟩,c6,c7,c8,c9⟩:=id X3;simp only at c0 c1 c2 c3 c4 c5 c6 c7 c8 c9;clear hb3 X3;go_wp2_with fail;refine (q1R r _ _ p (hs.below B3.out)).mono ?_;rintro e w4 ⟨rfl,hb4⟩;rw [hr];have B4:Hid (Below w.heap.size w w4):=z1A B3.out hb4;clear hb4 c0 c1 c2 c3 c4 c5 c6 c7 c8 c9;go_wp2;go_ret;exact ⟨rfl,B4.out⟩
theorem v5K (no:Bool) (l r:Cel) (wide:Int) (w:World) (p:Addr) (hs:v1J w p) (hl:l.okB wide=true) (hr:r.okB wide=true) :
  Calls Tryz.prog 210 #[.agg #[.int .i64 1,.bool no,.int .i64 l.k,.int .i64 l.a,.int .i64 l.b,.int .i64 l.n,.int .i64 r.k,.int .i64 r.a,.int .i64 r.b,.int .i64 r.n],.int .i64 wide] w fun e w'=>e = .returned (.bool true)/\Below w.heap.size w w':=by
 go_enter Tryz.func210,Tryz.ntmps210;go_wp2_with fail;refine (x2U _).mono ?_;rintro e w1 ⟨rfl,hb1⟩;have B1:Hid (Below w.heap.size w w1):=z1A (z1B _) hb1;have X1:=(q1K.start w ⟨1,no,l,r⟩ _).below hb1;obtain ⟨_,c0,c1,⟨c2,c3,c4,c5⟩,c6,c7,c8,c9⟩:=id X1;have HX1:Hid (q1K w1 w.heap.size ⟨1,no,l,r⟩):=X1;simp only at c0 c1 c2 c3 c4 c5 c6 c7 c8 c9;have hg:=(hs.below B1.out).2;clear hb1 X1;go_wp2_with fail;refine (x2H p _).mono ?_;rintro e w2 ⟨rfl,rfl⟩;go_wp2_with fail;refine (q1R l _ _ p (hs.below B1.out)).mono ?_;rintro e w3 ⟨rfl,hb3⟩;rw [hl];have B3:Hid (Below w.heap.size w w3):=z1A B1.out hb3;have X3:=HX1.out.below hb3;clear c0 c1 c2 c3 c4 c5 c6 c7 c8 c9 hg;obtain ⟨_,c0,c1,⟨c2,c3,c4,c5⟩,c6,c7,c8,c9⟩:=id X3;simp only at c0 c1 c2 c3 c4 c5 c6 c7 c8 c9;clear hb3 X3;go_wp2_with fail;refine (q1R r _ _ p (hs.below B3.out)).mono ?_;rintro e w4 ⟨rfl,hb4⟩;rw [hr];have B4:Hid (Below w.heap.size w w4):=z1A B3.out hb4;clear hb4 c0 c1 c2 c3 c4 c5 c6 c7 c8 c9;go_wp2;go_ret;exact ⟨rfl,B4.out⟩
theorem v5J (no:Bool) (l r:Cel) (wide:Int) (w:World) (p:Addr) (hs:v1J w p) (hl:l.okB wide=false) :
  Calls Tryz.prog 210 #[.agg #[.int .i64 2,.bool no,.int .i64 l.k,.int .i64 l.a,.int .i64 l.b,.int .i64 l.n,.int .i64 r.k,.int .i64 r.a,.int .i64 r.b,.int .i64 r.n],.int .i64 wide] w fun e w'=>e = .returned (.bool false)/\Below w.heap.size w w':=by
 go_enter Tryz.func210,Tryz.ntmps210;go_wp2_with fail;refine (x2T _).mono ?_;rintro e w1 ⟨rfl,hb1⟩;have B1:Hid (Below w.heap.size w w1):=z1A (z1B _) hb1;have X1:=(q1K.start w ⟨2,no,l,r⟩ _).below hb1;obtain ⟨_,c0,c1,⟨c2,c3,c4,c5⟩,c6,c7,c8,c9⟩:=id X1;have HX1:Hid (q1K w1 w.heap.size ⟨2,no,l,r⟩):=X1;simp only at c0 c1 c2 c3 c4 c5 c6 c7 c8 c9;have hg:=(hs.below B1.out).2;clear hb1 X1;go_wp2_with fail;refine (x2H p _).mono ?_;rintro e w2 ⟨rfl,rfl⟩;go_wp2_with fail;refine (q1R l _ _ p (hs.below B1.out)).mono ?_;rintro e w3 ⟨rfl,hb3⟩;rw [hl];have B3:Hid (Below w.heap.size w w3):=z1A B1.out hb3;clear hb3 c0 c1 c2 c3 c4 c5 c6 c7 c8 c9 hg;go_wp2;go_ret;exact ⟨rfl,B3.out⟩
theorem v5I (no:Bool) (l r:Cel) (wide:Int) (w:World) (p:Addr) (hs:v1J w p) (hl:l.okB wide=true) (hr:r.okB wide=false) :
  Calls Tryz.prog 210 #[.agg #[.int .i64 2,.bool no,.int .i64 l.k,.int .i64 l.a,.int .i64 l.b,.int .i64 l.n,.int .i64 r.k,.int .i64 r.a,.int .i64 r.b,.int .i64 r.n],.int .i64 wide] w fun e w'=>e = .returned (.bool false)/\Below w.heap.size w w':=by
 go_enter Tryz.func210,Tryz.ntmps210;go_wp2_with fail;refine (x2T _).mono ?_;rintro e w1 ⟨rfl,hb1⟩;have B1:Hid (Below w.heap.size w w1):=z1A (z1B _) hb1;have X1:=(q1K.start w ⟨2,no,l,r⟩ _).below hb1;obtain ⟨_,c0,c1,⟨c2,c3,c4,c5⟩,c6,c7,c8,c9⟩:=id X1;have HX1:Hid (q1K w1 w.heap.size ⟨2,no,l,r⟩):=X1;simp only at c0 c1 c2 c3 c4 c5 c6 c7 c8 c9;have hg:=(hs.below B1.out).2;clear hb1 X1;go_wp2_with fail;refine (x2H p _).mono ?_;rintro e w2 ⟨rfl,rfl⟩;go_wp2_with fail;refine (q1R l _ _ p (hs.below B1.out)).mono ?_;rintro e w3 ⟨rfl,hb3⟩;rw [hl];have B3:Hid (Below w.heap.size w w3):=z1A B1.out hb3;have X3:=HX1.out.below hb3;clear c0 c1 c2 c3 c4 c5 c6 c7 c8 c9 hg;obtain ⟨_,c0,c1,⟨c2,c3,c4,c5⟩,c6,c7,c8,c9⟩:=id X3;simp only at c0 c1 c2 c3 c4 c5 c6 c7 c8 c9;clear hb3 X3;go_wp2_with fail;refine (q1R r _ _ p (hs.below B3.out)).mono ?_;rintro e w4 ⟨rfl,hb4⟩;rw [hr];have B4:Hid (Below w.heap.size w w4):=z1A B3.out hb4;clear hb4 c0 c1 c2 c3 c4 c5 c6 c7 c8 c9;go_wp2;go_ret;exact ⟨rfl,B4.out⟩
theorem v5H (no:Bool) (l r:Cel) (wide:Int) (w:World) (p:Addr) (hs:v1J w p) (hl:l.okB wide=true) (hr:r.okB wide=true) :
  Calls Tryz.prog 210 #[.agg #[.int .i64 2,.bool no,.int .i64 l.k,.int .i64 l.a,.int .i64 l.b,.int .i64 l.n,.int .i64 r.k,.int .i64 r.a,.int .i64 r.b,.int .i64 r.n],.int .i64 wide] w fun e w'=>e = .returned (.bool true)/\Below w.heap.size w w':=by
 go_enter Tryz.func210,Tryz.ntmps210;go_wp2_with fail;refine (x2T _).mono ?_;rintro e w1 ⟨rfl,hb1⟩;have B1:Hid (Below w.heap.size w w1):=z1A (z1B _) hb1;have X1:=(q1K.start w ⟨2,no,l,r⟩ _).below hb1;obtain ⟨_,c0,c1,⟨c2,c3,c4,c5⟩,c6,c7,c8,c9⟩:=id X1;have HX1:Hid (q1K w1 w.heap.size ⟨2,no,l,r⟩):=X1;simp only at c0 c1 c2 c3 c4 c5 c6 c7 c8 c9;have hg:=(hs.below B1.out).2;clear hb1 X1;go_wp2_with fail;refine (x2H p _).mono ?_;rintro e w2 ⟨rfl,rfl⟩;go_wp2_with fail;refine (q1R l _ _ p (hs.below B1.out)).mono ?_;rintro e w3 ⟨rfl,hb3⟩;rw [hl];have B3:Hid (Below w.heap.size w w3):=z1A B1.out hb3;have X3:=HX1.out.below hb3;clear c0 c1 c2 c3 c4 c5 c6 c7 c8 c9 hg;obtain ⟨_,c0,c1,⟨c2,c3,c4,c5⟩,c6,c7,c8,c9⟩:=id X3;simp only at c0 c1 c2 c3 c4 c5 c6 c7 c8 c9;clear hb3 X3;go_wp2_with fail;refine (q1R r _ _ p (hs.below B3.out)).mono ?_;rintro e w4 ⟨rfl,hb4⟩;rw [hr];have B4:Hid (Below w.heap.size w w4):=z1A B3.out hb4;clear hb4 c0 c1 c2 c3 c4 c5 c6 c7 c8 c9;go_wp2;go_ret;exact ⟨rfl,B4.out⟩
theorem v3G (t:Tst) (wide:Int) (w:World) (p:Addr) (hs:v1J w p) :
  Calls Tryz.prog 210 #[.agg #[.int .i64 t.k,.bool t.no,.int .i64 t.l.k,.int .i64 t.l.a,.int .i64 t.l.b,.int .i64 t.l.n,.int .i64 t.r.k,.int .i64 t.r.a,.int .i64 t.r.b,.int .i64 t.r.n],.int .i64 wide] w fun e w'=>e = .returned (.bool (t.okB wide))/\Below w.heap.size w w':=by
 obtain ⟨k,no,l,r⟩:=t;simp only [Tst.okB];by_cases h1:k=1
 ·
  subst h1;cases hl:l.okB wide
  ·
   simpa using v5M no l r wide w p hs hl
  ·
   cases hr:r.okB wide
   ·
    simpa using v5L no l r wide w p hs hl hr
   ·
    simpa using v5K no l r wide w p hs hl hr
 ·
  by_cases h2:k=2
  ·
   subst h2;cases hl:l.okB wide
   ·
    simpa using v5J no l r wide w p hs hl
   ·
    cases hr:r.okB wide
    ·
     simpa using v5I no l r wide w p hs hl hr
    ·
     simpa using v5H no l r wide w p hs hl hr
  ·
   have hk:decide (k=1\/k=2)=false:=by simp [h1,h2]
   rw [hk];simpa using x4P k no l r wide w p hs (by simpa using h1) (by simpa using h2)
theorem q6N (a b:Int) (w:World):Calls Tryz.prog 233 #[.agg #[],.int .i64 a,.int .i64 b] w fun e w'=>e = .returned (.bool (decide (a<b)))/\Below w.heap.size w w':=by
 go_enter Tryz.func233,Tryz.ntmps233;go_wp2;go_ret;exact ⟨rfl,z1B _⟩
theorem k5Z (a b:Int) (w:World):Calls Tryz.prog 235 #[.agg #[],.int .i64 a,.int .i64 b] w fun e w'=>e = .returned (.bool (a==b))/\Below w.heap.size w w':=by
 go_enter Tryz.func235,Tryz.ntmps235;go_wp2;go_ret;exact ⟨rfl,z1B _⟩
theorem invLess (v:Value) (w:World):(Go.method 381 191 v "loop.example/milldam/impl.holds").run Tryz.prog w = .ok (233,v) w:=by kernel_rfl
theorem invSame (v:Value) (w:World):(Go.method 381 192 v "loop.example/milldam/impl.holds").run Tryz.prog w = .ok (235,v) w:=by kernel_rfl
theorem ask_none (k:Int) (no:Bool) (l r:Cel) (v:Value) (xs:List Int) (w:World) (p:Addr) (hs:v1J w p) (hx:z1E w v xs) (h1:(k==1)=false) (h2:(k==2)=false) :
  Calls Tryz.prog 70 #[.agg #[.int .i64 k,.bool no,.int .i64 l.k,.int .i64 l.a,.int .i64 l.b,.int .i64 l.n,.int .i64 r.k,.int .i64 r.a,.int .i64 r.b,.int .i64 r.n],v] w fun e w'=>e = .returned (.tuple #[.bool false,.iface 248 (.pointer (some p))])/\Below w.heap.size w w':=by
 go_enter Tryz.func70,Tryz.ntmps70;go_wp2_with fail;refine (q5E k _ p (hs.below (z1B _)) h1 h2).mono ?_;rintro e w1 ⟨rfl,hb1⟩;have B1:Hid (Below w.heap.size w w1):=z1A (z1B _) hb1;have X1:=(q1K.start w ⟨k,no,l,r⟩ _).below hb1;obtain ⟨_,c0,c1,⟨c2,c3,c4,c5⟩,c6,c7,c8,c9⟩:=id X1;have HX1:Hid (q1K w1 w.heap.size ⟨k,no,l,r⟩):=X1;simp only at c0 c1 c2 c3 c4 c5 c6 c7 c8 c9;clear hb1 X1;go_wp2;go_ret2;exact ⟨rfl,B1.out⟩
theorem ask_1l (no:Bool) (l r:Cel) (v:Value) (xs:List Int) (w:World) (p:Addr) (hs:v1J w p) (hx:z1E w v xs) (hl:l.toldB xs=false) :
  Calls Tryz.prog 70 #[.agg #[.int .i64 1,.bool no,.int .i64 l.k,.int .i64 l.a,.int .i64 l.b,.int .i64 l.n,.int .i64 r.k,.int .i64 r.a,.int .i64 r.b,.int .i64 r.n],v] w fun e w'=>e = .returned (.tuple #[.bool false,.iface 248 (.pointer (some p))])/\Below w.heap.size w w':=by
 go_enter Tryz.func70,Tryz.ntmps70;go_wp2_with fail;refine (x2U _).mono ?_;rintro e w1 ⟨rfl,hb1⟩;have B1:Hid (Below w.heap.size w w1):=z1A (z1B _) hb1;have X1:=(q1K.start w ⟨1,no,l,r⟩ _).below hb1;obtain ⟨_,c0,c1,⟨c2,c3,c4,c5⟩,c6,c7,c8,c9⟩:=id X1;have HX1:Hid (q1K w1 w.heap.size ⟨1,no,l,r⟩):=X1;simp only at c0 c1 c2 c3 c4 c5 c6 c7 c8 c9;clear hb1 X1;go_wp2_with fail;refine (x1K l _ xs _ p (hs.below B1.out) (hx.below B1.out)).mono ?_;rintro e w3 ⟨he3,hb3⟩;have B3:Hid (Below w.heap.size w w3):=z1A B1.out hb3;have X3:=HX1.out.below hb3;clear c0 c1 c2 c3 c4 c5 c6 c7 c8 c9;obtain ⟨_,c0,c1,⟨c2,c3,c4,c5⟩,c6,c7,c8,c9⟩:=id X3;have HX3:Hid (q1K w3 w.heap.size ⟨1,no,l,r⟩):=X3;simp only at c0 c1 c2 c3 c4 c5 c6 c7 c8 c9;clear hb3 X3;obtain rfl:=he3.no hl;clear he3;go_wp2;go_ret2;exact ⟨rfl,B3.out⟩
theorem ask_1r (no:Bool) (l r:Cel) (v:Value) (xs:List Int) (w:World) (p:Addr) (hs:v1J w p) (hx:z1E w v xs) (hl:l.toldB xs=true) (hr:r.toldB xs=false) :
  Calls Tryz.prog 70 #[.agg #[.int .i64 1,.bool no,.int .i64 l.k,.int .i64 l.a,.int .i64 l.b,.int .i64 l.n,.int .i64 r.k,.int .i64 r.a,.int .i64 r.b,.int .i64 r.n],v] w fun e w'=>e = .returned (.tuple #[.bool false,.iface 248 (.pointer (some p))])/\Below w.heap.size w w':=by
 go_enter Tryz.func70,Tryz.ntmps70;go_wp2_with fail;refine (x2U _).mono ?_;rintro e w1 ⟨rfl,hb1⟩;have B1:Hid (Below w.heap.size w w1):=z1A (z1B _) hb1;have X1:=(q1K.start w ⟨1,no,l,r⟩ _).below hb1;obtain ⟨_,c0,c1,⟨c2,c3,c4,c5⟩,c6,c7,c8,c9⟩:=id X1;have HX1:Hid (q1K w1 w.heap.size ⟨1,no,l,r⟩):=X1;simp only at c0 c1 c2 c3 c4 c5 c6 c7 c8 c9;clear hb1 X1;go_wp2_with fail;refine (x1K l _ xs _ p (hs.below B1.out) (hx.below B1.out)).mono ?_;rintro e w3 ⟨he3,hb3⟩;have B3:Hid (Below w.heap.size w w3):=z1A B1.out hb3;have X3:=HX1.out.below hb3;clear c0 c1 c2 c3 c4 c5 c6 c7 c8 c9;obtain ⟨_,c0,c1,⟨c2,c3,c4,c5⟩,c6,c7,c8,c9⟩:=id X3;have HX3:Hid (q1K w3 w.heap.size ⟨1,no,l,r⟩):=X3;simp only at c0 c1 c2 c3 c4 c5 c6 c7 c8 c9;clear hb3 X3;obtain rfl:=he3.yes hl;clear he3;obtain ⟨x,HXV⟩:∃ x,Hid (x=l.num xs):=⟨_,Eq.refl _⟩;rw [<-HXV.out];go_wp2_with fail;refine (x1K r _ xs _ p (hs.below B3.out) (hx.below B3.out)).mono ?_;rintro e w4 ⟨he4,hb4⟩;have B4:Hid (Below w.heap.size w w4):=z1A B3.out hb4;have X4:=HX3.out.below hb4;clear c0 c1 c2 c3 c4 c5 c6 c7 c8 c9;obtain ⟨hlt4,c0,c1,⟨c2,c3,c4,c5⟩,c6,c7,c8,c9⟩:=id X4;have HX4:Hid (q1K w4 w.heap.size ⟨1,no,l,r⟩):=X4;simp only at c0 c1 c2 c3 c4 c5 c6 c7 c8 c9;clear hb4 X4;obtain rfl:=he4.no hr;clear he4;go_wp2;go_ret2;exact ⟨rfl,B4.out⟩
theorem ask_1y (no:Bool) (l r:Cel) (v:Value) (xs:List Int) (w:World) (p:Addr) (hs:v1J w p) (hx:z1E w v xs) (hl:l.toldB xs=true) (hr:r.toldB xs=true) :
  Calls Tryz.prog 70 #[.agg #[.int .i64 1,.bool no,.int .i64 l.k,.int .i64 l.a,.int .i64 l.b,.int .i64 l.n,.int .i64 r.k,.int .i64 r.a,.int .i64 r.b,.int .i64 r.n],v] w fun e w'=>e = .returned (.tuple #[.bool (decide (l.num xs<r.num xs) != no),.nilIface])/\Below w.heap.size w w':=by
 have hm:=invLess;go_enter Tryz.func70,Tryz.ntmps70;go_wp2_with fail;refine (x2U _).mono ?_;rintro e w1 ⟨rfl,hb1⟩;have B1:Hid (Below w.heap.size w w1):=z1A (z1B _) hb1;have X1:=(q1K.start w ⟨1,no,l,r⟩ _).below hb1;obtain ⟨_,c0,c1,⟨c2,c3,c4,c5⟩,c6,c7,c8,c9⟩:=id X1;have HX1:Hid (q1K w1 w.heap.size ⟨1,no,l,r⟩):=X1;simp only at c0 c1 c2 c3 c4 c5 c6 c7 c8 c9;clear hb1 X1;go_wp2_with fail;refine (x1K l _ xs _ p (hs.below B1.out) (hx.below B1.out)).mono ?_;rintro e w3 ⟨he3,hb3⟩;have B3:Hid (Below w.heap.size w w3):=z1A B1.out hb3;have X3:=HX1.out.below hb3;clear c0 c1 c2 c3 c4 c5 c6 c7 c8 c9;obtain ⟨_,c0,c1,⟨c2,c3,c4,c5⟩,c6,c7,c8,c9⟩:=id X3;have HX3:Hid (q1K w3 w.heap.size ⟨1,no,l,r⟩):=X3;simp only at c0 c1 c2 c3 c4 c5 c6 c7 c8 c9;clear hb3 X3;obtain rfl:=he3.yes hl;clear he3;obtain ⟨x,HXV⟩:∃ x,Hid (x=l.num xs):=⟨_,Eq.refl _⟩;rw [<-HXV.out];go_wp2_with fail;refine (x1K r _ xs _ p (hs.below B3.out) (hx.below B3.out)).mono ?_;rintro e w4 ⟨he4,hb4⟩;have B4:Hid (Below w.heap.size w w4):=z1A B3.out hb4;have X4:=HX3.out.below hb4;clear c0 c1 c2 c3 c4 c5 c6 c7 c8 c9;obtain ⟨hlt4,c0,c1,⟨c2,c3,c4,c5⟩,c6,c7,c8,c9⟩:=id X4;have HX4:Hid (q1K w4 w.heap.size ⟨1,no,l,r⟩):=X4;simp only at c0 c1 c2 c3 c4 c5 c6 c7 c8 c9;clear hb4 X4;obtain rfl:=he4.yes hr;clear he4;obtain ⟨y,HYV⟩:∃ y,Hid (y=r.num xs):=⟨_,Eq.refl _⟩;rw [<-HYV.out];go_wp2_with fail;go_region_with (go_at_call 233; refine (q6N _ _ _).mono ?_; rintro e w5 ⟨rfl,hb5⟩; have d1:w5.cell? ⟨w.heap.size,1,none⟩=some (.bool no):=(hb5.cell (p:=⟨w.heap.size,1,none⟩) hlt4).trans c1; have B5:Hid (Below w.heap.size w w5):=z1A (by first | exact B4.out | exact B4.out.drew | exact below_drewN B4.out _) hb5; clear hb5)
 all_goals (try go_wp2)
 all_goals (go_ret2; exact ⟨by rw [<-HXV.out,<-HYV.out]; rfl,by first | exact B5.out | exact B5.out.drew | exact below_drewN B5.out _⟩)
theorem ask_2l (no:Bool) (l r:Cel) (v:Value) (xs:List Int) (w:World) (p:Addr) (hs:v1J w p) (hx:z1E w v xs) (hl:l.toldB xs=false) :
  Calls Tryz.prog 70 #[.agg #[.int .i64 2,.bool no,.int .i64 l.k,.int .i64 l.a,.int .i64 l.b,.int .i64 l.n,.int .i64 r.k,.int .i64 r.a,.int .i64 r.b,.int .i64 r.n],v] w fun e w'=>e = .returned (.tuple #[.bool false,.iface 248 (.pointer (some p))])/\Below w.heap.size w w':=by
 go_enter Tryz.func70,Tryz.ntmps70;go_wp2_with fail;refine (x2T _).mono ?_;rintro e w1 ⟨rfl,hb1⟩;have B1:Hid (Below w.heap.size w w1):=z1A (z1B _) hb1;have X1:=(q1K.start w ⟨2,no,l,r⟩ _).below hb1;obtain ⟨_,c0,c1,⟨c2,c3,c4,c5⟩,c6,c7,c8,c9⟩:=id X1;have HX1:Hid (q1K w1 w.heap.size ⟨2,no,l,r⟩):=X1;simp only at c0 c1 c2 c3 c4 c5 c6 c7 c8 c9;clear hb1 X1;go_wp2_with fail;refine (x1K l _ xs _ p (hs.below B1.out) (hx.below B1.out)).mono ?_;rintro e w3 ⟨he3,hb3⟩;have B3:Hid (Below w.heap.size w w3):=z1A B1.out hb3;have X3:=HX1.out.below hb3;clear c0 c1 c2 c3 c4 c5 c6 c7 c8 c9;obtain ⟨_,c0,c1,⟨c2,c3,c4,c5⟩,c6,c7,c8,c9⟩:=id X3;have HX3:Hid (q1K w3 w.heap.size ⟨2,no,l,r⟩):=X3;simp only at c0 c1 c2 c3 c4 c5 c6 c7 c8 c9;clear hb3 X3;obtain rfl:=he3.no hl;clear he3;go_wp2;go_ret2;exact ⟨rfl,B3.out⟩
theorem ask_2r (no:Bool) (l r:Cel) (v:Value) (xs:List Int) (w:World) (p:Addr) (hs:v1J w p) (hx:z1E w v xs) (hl:l.toldB xs=true) (hr:r.toldB xs=false) :
  Calls Tryz.prog 70 #[.agg #[.int .i64 2,.bool no,.int .i64 l.k,.int .i64 l.a,.int .i64 l.b,.int .i64 l.n,.int .i64 r.k,.int .i64 r.a,.int .i64 r.b,.int .i64 r.n],v] w fun e w'=>e = .returned (.tuple #[.bool false,.iface 248 (.pointer (some p))])/\Below w.heap.size w w':=by
 go_enter Tryz.func70,Tryz.ntmps70;go_wp2_with fail;refine (x2T _).mono ?_;rintro e w1 ⟨rfl,hb1⟩;have B1:Hid (Below w.heap.size w w1):=z1A (z1B _) hb1;have X1:=(q1K.start w ⟨2,no,l,r⟩ _).below hb1;obtain ⟨_,c0,c1,⟨c2,c3,c4,c5⟩,c6,c7,c8,c9⟩:=id X1;have HX1:Hid (q1K w1 w.heap.size ⟨2,no,l,r⟩):=X1;simp only at c0 c1 c2 c3 c4 c5 c6 c7 c8 c9;clear hb1 X1;go_wp2_with fail;refine (x1K l _ xs _ p (hs.below B1.out) (hx.below B1.out)).mono ?_;rintro e w3 ⟨he3,hb3⟩;have B3:Hid (Below w.heap.size w w3):=z1A B1.out hb3;have X3:=HX1.out.below hb3;clear c0 c1 c2 c3 c4 c5 c6 c7 c8 c9;obtain ⟨_,c0,c1,⟨c2,c3,c4,c5⟩,c6,c7,c8,c9⟩:=id X3;have HX3:Hid (q1K w3 w.heap.size ⟨2,no,l,r⟩):=X3;simp only at c0 c1 c2 c3 c4 c5 c6 c7 c8 c9;clear hb3 X3;obtain rfl:=he3.yes hl;clear he3;obtain ⟨x,HXV⟩:∃ x,Hid (x=l.num xs):=⟨_,Eq.refl _⟩;rw [<-HXV.out];go_wp2_with fail;refine (x1K r _ xs _ p (hs.below B3.out) (hx.below B3.out)).mono ?_;rintro e w4 ⟨he4,hb4⟩;have B4:Hid (Below w.heap.size w w4):=z1A B3.out hb4;have X4:=HX3.out.below hb4;clear c0 c1 c2 c3 c4 c5 c6 c7 c8 c9;obtain ⟨hlt4,c0,c1,⟨c2,c3,c4,c5⟩,c6,c7,c8,c9⟩:=id X4;have HX4:Hid (q1K w4 w.heap.size ⟨2,no,l,r⟩):=X4;simp only at c0 c1 c2 c3 c4 c5 c6 c7 c8 c9;clear hb4 X4;obtain rfl:=he4.no hr;clear he4;go_wp2;go_ret2;exact ⟨rfl,B4.out⟩
theorem ask_2y (no:Bool) (l r:Cel) (v:Value) (xs:List Int) (w:World) (p:Addr) (hs:v1J w p) (hx:z1E w v xs) (hl:l.toldB xs=true) (hr:r.toldB xs=true) :
  Calls Tryz.prog 70 #[.agg #[.int .i64 2,.bool no,.int .i64 l.k,.int .i64 l.a,.int .i64 l.b,.int .i64 l.n,.int .i64 r.k,.int .i64 r.a,.int .i64 r.b,.int .i64 r.n],v] w fun e w'=>e = .returned (.tuple #[.bool ((l.num xs==r.num xs) != no),.nilIface])/\Below w.heap.size w w':=by
 have hm:=invSame;go_enter Tryz.func70,Tryz.ntmps70;go_wp2_with fail;refine (x2T _).mono ?_;rintro e w1 ⟨rfl,hb1⟩;have B1:Hid (Below w.heap.size w w1):=z1A (z1B _) hb1;have X1:=(q1K.start w ⟨2,no,l,r⟩ _).below hb1;obtain ⟨_,c0,c1,⟨c2,c3,c4,c5⟩,c6,c7,c8,c9⟩:=id X1;have HX1:Hid (q1K w1 w.heap.size ⟨2,no,l,r⟩):=X1;simp only at c0 c1 c2 c3 c4 c5 c6 c7 c8 c9;clear hb1 X1;go_wp2_with fail;refine (x1K l _ xs _ p (hs.below B1.out) (hx.below B1.out)).mono ?_;rintro e w3 ⟨he3,hb3⟩;have B3:Hid (Below w.heap.size w w3):=z1A B1.out hb3;have X3:=HX1.out.below hb3;clear c0 c1 c2 c3 c4 c5 c6 c7 c8 c9;obtain ⟨_,c0,c1,⟨c2,c3,c4,c5⟩,c6,c7,c8,c9⟩:=id X3;have HX3:Hid (q1K w3 w.heap.size ⟨2,no,l,r⟩):=X3;simp only at c0 c1 c2 c3 c4 c5 c6 c7 c8 c9;clear hb3 X3;obtain rfl:=he3.yes hl;clear he3;obtain ⟨x,HXV⟩:∃ x,Hid (x=l.num xs):=⟨_,Eq.refl _⟩;rw [<-HXV.out];go_wp2_with fail;refine (x1K r _ xs _ p (hs.below B3.out) (hx.below B3.out)).mono ?_;rintro e w4 ⟨he4,hb4⟩;have B4:Hid (Below w.heap.size w w4):=z1A B3.out hb4;have X4:=HX3.out.below hb4;clear c0 c1 c2 c3 c4 c5 c6 c7 c8 c9;obtain ⟨hlt4,c0,c1,⟨c2,c3,c4,c5⟩,c6,c7,c8,c9⟩:=id X4;have HX4:Hid (q1K w4 w.heap.size ⟨2,no,l,r⟩):=X4;simp only at c0 c1 c2 c3 c4 c5 c6 c7 c8 c9;clear hb4 X4;obtain rfl:=he4.yes hr;clear he4;obtain ⟨y,HYV⟩:∃ y,Hid (y=r.num xs):=⟨_,Eq.refl _⟩;rw [<-HYV.out];go_wp2_with fail;go_region_with (go_at_call 235; refine (k5Z _ _ _).mono ?_; rintro e w5 ⟨rfl,hb5⟩; have d1:w5.cell? ⟨w.heap.size,1,none⟩=some (.bool no):=(hb5.cell (p:=⟨w.heap.size,1,none⟩) hlt4).trans c1; have B5:Hid (Below w.heap.size w w5):=z1A (by first | exact B4.out | exact B4.out.drew | exact below_drewN B4.out _) hb5; clear hb5)
 all_goals (try go_wp2)
 all_goals (go_ret2; exact ⟨by rw [<-HXV.out,<-HYV.out]; rfl,by first | exact B5.out | exact B5.out.drew | exact below_drewN B5.out _⟩)
def AskEnd (t:Tst) (xs:List Int) (p:Addr) (e:Ending):Prop:=
 (t.toldB xs=true/\e = .returned (.tuple #[.bool (t.holdsB xs),.nilIface]))\/(t.toldB xs=false/\e = .returned (.tuple #[.bool false,.iface 248 (.pointer (some p))]))
theorem ask_any (t:Tst) (v:Value) (xs:List Int) (w:World) (p:Addr) (hs:v1J w p) (hx:z1E w v xs) :
  Calls Tryz.prog 70 #[.agg #[.int .i64 t.k,.bool t.no,.int .i64 t.l.k,.int .i64 t.l.a,.int .i64 t.l.b,.int .i64 t.l.n,.int .i64 t.r.k,.int .i64 t.r.a,.int .i64 t.r.b,.int .i64 t.r.n],v] w fun e w'=>AskEnd t xs p e/\Below w.heap.size w w':=by
 obtain ⟨k,no,l,r⟩:=t;simp only;by_cases hk:k=1\/k=2
 ·
  cases hl:l.toldB xs
  ·
   have hf:Tst.toldB ⟨k,no,l,r⟩ xs=false:=by simp [Tst.toldB,hl]
   rcases hk with rfl | rfl
   ·
    exact (ask_1l no l r v xs w p hs hx hl).mono fun e w' h=>⟨.inr ⟨hf,h.1⟩,h.2⟩
   ·
    exact (ask_2l no l r v xs w p hs hx hl).mono fun e w' h=>⟨.inr ⟨hf,h.1⟩,h.2⟩
  ·
   cases hr:r.toldB xs
   ·
    have hf:Tst.toldB ⟨k,no,l,r⟩ xs=false:=by simp [Tst.toldB,hr]
    rcases hk with rfl | rfl
    ·
     exact (ask_1r no l r v xs w p hs hx hl hr).mono fun e w' h=>⟨.inr ⟨hf,h.1⟩,h.2⟩
    ·
     exact (ask_2r no l r v xs w p hs hx hl hr).mono fun e w' h=>⟨.inr ⟨hf,h.1⟩,h.2⟩
   ·
    have ht:Tst.toldB ⟨k,no,l,r⟩ xs=true:=by simp [Tst.toldB,hk,hl,hr]
    rcases hk with rfl | rfl
    ·
     exact (ask_1y no l r v xs w p hs hx hl hr).mono fun e w' h=>⟨.inl ⟨ht,by simpa [Tst.holdsB] using h.1⟩,h.2⟩
    ·
     have hb:(l.num xs==r.num xs)=decide (l.num xs=r.num xs):=by by_cases h:l.num xs=r.num xs <;> simp [h]
     exact (ask_2y no l r v xs w p hs hx hl hr).mono fun e w' h=>⟨.inl ⟨ht,by rw [hb] at h; simpa [Tst.holdsB] using h.1⟩,h.2⟩
 ·
  have hf:Tst.toldB ⟨k,no,l,r⟩ xs=false:=by simp only [Tst.toldB,decide_eq_false hk,Bool.false_and]
  refine (ask_none k no l r v xs w p hs hx ?_ ?_).mono fun e w' h=>⟨.inr ⟨hf,h.1⟩,h.2⟩
  ·
   simpa using fun h=>hk (.inl h)
  ·
   simpa using fun h=>hk (.inr h)
theorem v3H (t:Tst) (v:Value) (xs:List Int) (w:World) (p:Addr) (hs:v1J w p) (hx:z1E w v xs) :
  Calls Tryz.prog 27 #[.agg #[.int .i64 t.k,.bool t.no,.int .i64 t.l.k,.int .i64 t.l.a,.int .i64 t.l.b,.int .i64 t.l.n,.int .i64 t.r.k,.int .i64 t.r.a,.int .i64 t.r.b,.int .i64 t.r.n],v] w fun e w'=>e = .returned (.tuple #[.bool (t.valB xs),.bool (t.toldB xs)])/\Below w.heap.size w w':=by
 obtain ⟨b,HR⟩:∃ b,Hid (b=t.valB xs):=⟨_,Eq.refl _⟩;obtain ⟨d,HT⟩:∃ d,Hid (d=t.toldB xs):=⟨_,Eq.refl _⟩;rw [<-HR.out,<-HT.out];go_enter Tryz.func27,Tryz.ntmps27;go_wp2_with fail;refine (ask_any t v xs _ p (hs.below (z1B _)) (hx.below (z1B _))).mono ?_;rintro e w2 ⟨he,hb2⟩;have HB:Hid (Below w.heap.size w w2):=z1A (z1B _) hb2;have hg:=(hs.below HB.out).2;clear hb2 hs hx;rcases he with ⟨h1,rfl⟩ | ⟨h1,rfl⟩
 ·
  have h2:t.valB xs=t.holdsB xs:=by rw [Tst.valB,h1,Bool.true_and]
  rw [<-HT.out] at h1;rw [<-HR.out] at h2;rw [<-h2];subst h1;clear h2;go_wp2_with fail;refine (x2H p _).mono ?_;rintro e w3 ⟨rfl,rfl⟩;go_wp2;go_ret2;exact ⟨rfl,HB.out⟩
 ·
  have h2:t.valB xs=false:=by rw [Tst.valB,h1,Bool.false_and]
  rw [<-HT.out] at h1;rw [<-HR.out] at h2;subst h1 h2;go_wp2_with fail;refine (z4V p _).mono ?_;rintro e w3 ⟨rfl,rfl⟩;go_wp2;go_ret2;exact ⟨rfl,HB.out⟩
end Go.Proofs.YtmjaepdplbgohaaGreatDoor
