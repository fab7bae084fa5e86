/- Part of the proof of laws.FnMean: Rd, Draw, DrawC, DrawC2, DrawT. -/
import Derived.Test.YtmjaepdplbgohaaGreatDoorPkA
import Derived.Laws.BitsLemmas
import Derived.OpenShut
import Derived.Test.YtmjaepdplbgohaaGreatDoorPkC
set_option maxRecDepth 100000
set_option maxHeartbeats 16000000
set_option linter.unusedVariables false
set_option linter.unusedSimpArgs false
namespace Go.Proofs.YtmjaepdplbgohaaGreatDoor
open Go.RowKit
def Rd (w:World) (g P:Nat):Prop:=
 ∃ (ab:Option Addr) (nb cb p:Nat) (zs:List Int),w.heap[g]? = some (.cells #[.slice ab nb cb,.int .i64 p] 86 (0,0))/\p<=P/\nb<=2000 ∧
  (0<nb->∃ b off,ab=some ⟨b,off,none⟩/\b<g/\b<w.heap.size/\∀ j,j<nb->w.cell? ⟨b,off+j,none⟩=some (.int .u8 (zs.getD j 0)))/\∀ j,0<=zs.getD j 0/\zs.getD j 0<=255
theorem Rd.lt {w:World} {g P:Nat} (h:Rd w g P):g<w.heap.size:=by
 obtain ⟨ab,nb,cb,p,zs,hh,_⟩:=h;exact (Array.getElem?_eq_some_iff.1 hh).1
theorem Rd.below {w w':World} {g P:Nat} (h:Rd w g P) (hb:Below w.heap.size w w'):Rd w' g P:=by
 have hg:=h.lt;obtain ⟨ab,nb,cb,p,zs,hh,hp,hn,hc,hz⟩:=h;refine ⟨ab,nb,cb,p,zs,(hb.block g hg).trans hh,hp,hn,fun h0=> ?_,hz⟩;obtain ⟨b,off,rfl,hne,hbl,hcell⟩:=hc h0;exact ⟨b,off,rfl,hne,Nat.lt_of_lt_of_le hbl hb.size,fun j hj=>(hb.cell (p:=⟨b,off+j,none⟩) hbl).trans (hcell j hj)⟩
theorem z6L (g cb p:Nat) (ab:Option Addr) (n:Int) (w:World) (hn:1<=n) (hp:p<=1099511627776)
  (hh:w.heap[g]? = some (.cells #[.slice ab 0 cb,.int .i64 p] 86 (0,0))) :
  Calls Tryz.prog 18 #[.pointer (some ⟨g,0,none⟩),.int .i64 n] w fun e w'=>e = .returned (.int .i64 0)/\w'=w.setCell ⟨g,1,none⟩ (.int .i64 (p+1)):=by
 have hc0:w.cell? ⟨g,0,none⟩=some (.slice ab 0 cb):=by rw [cell_of_row w g 0 _ _ _ hh]; rfl
 have hc1:w.cell? ⟨g,1,none⟩=some (.int .i64 p):=by rw [cell_of_row w g 1 _ _ _ hh]; rfl
 have hf1:w.frozen? ⟨g,1,none⟩=false:=frozen_of_row w g 1 _ _ hh;clear hh;go_enter Tryz.func18,Tryz.ntmps18;go_wp2;go_ret;exact ⟨rfl,rfl⟩
theorem z6M (g cb p b off nb:Nat) (zs:List Int) (n:Int) (w:World) (hn:1<=n) (hn2:n<=1099511627776) (hp:p<nb) (hnb:nb<=2000) (hbg:b≠g)
  (hh:w.heap[g]? = some (.cells #[.slice (some ⟨b,off,none⟩) nb cb,.int .i64 p] 86 (0,0)))
  (hcell:∀ j,j<nb->w.cell? ⟨b,off+j,none⟩=some (.int .u8 (zs.getD j 0))) (hz:∀ j,0<=zs.getD j 0/\zs.getD j 0<=255) :
  Calls Tryz.prog 18 #[.pointer (some ⟨g,0,none⟩),.int .i64 n] w fun e w'=>e = .returned (.int .i64 (zs.getD p 0 % n))/\w'=w.setCell ⟨g,1,none⟩ (.int .i64 (p+1)):=by
 have hc0:w.cell? ⟨g,0,none⟩=some (.slice (some ⟨b,off,none⟩) nb cb):=by rw [cell_of_row w g 0 _ _ _ hh]; rfl
 have hc1:w.cell? ⟨g,1,none⟩=some (.int .i64 p):=by rw [cell_of_row w g 1 _ _ _ hh]; rfl
 have hf1:w.frozen? ⟨g,1,none⟩=false:=frozen_of_row w g 1 _ _ hh;have hx:=hcell p hp;have hzp:=hz p;obtain ⟨z,HZ⟩:∃ z,Hid (z=zs.getD p 0):=⟨_,rfl⟩;rw [<-HZ.out] at hx hzp ⊢;obtain ⟨hz1,hz2⟩:=hzp;clear hh hcell hz;have hd1:decide (n<1)=false:=by simp; omega
 have hd2:((nb:Int)==0)=false:=by simp; omega
 go_enter Tryz.func18,Tryz.ntmps18;go_wp2;go_ret;exact ⟨rfl,rfl⟩
theorem k1O {xs:List Int} {j:Nat} (h:j<xs.length):xs.getD j 0∈xs:=by
 simp [List.getD,h]
theorem j5K (x y:Int) (h1:0<=x) (h2:x<4611686018427387904) (h3:0<=y) (h4:y<4611686018427387904):0<=bits .xor .i64 x y:=by
 obtain ⟨a,rfl⟩:=Int.eq_ofNat_of_zero_le h1;obtain ⟨b,rfl⟩:=Int.eq_ofNat_of_zero_le h3;have hx:a ^^^ b<2 ^ 62:=Nat.xor_lt_two_pow (by omega) (by omega);have ha:(BitVec.ofInt 64 (a:Int)).toNat=a:=by
  rw [BitVec.ofInt_natCast,BitVec.toNat_ofNat]; exact Nat.mod_eq_of_lt (by omega)
 have hb:(BitVec.ofInt 64 (b:Int)).toNat=b:=by
  rw [BitVec.ofInt_natCast,BitVec.toNat_ofNat]; exact Nat.mod_eq_of_lt (by omega)
 show 0<=IntKind.i64.wrap ((BitVec.ofInt 64 (a:Int) ^^^ BitVec.ofInt 64 (b:Int)).toNat:Int);rw [BitVec.toNat_xor,ha,hb,IntKind.wrap_i64];omega
theorem pick_far (g cb p b off nb:Nat) (zs:List Int) (n:Int) (w:World) (hn:1<=n) (hn2:n<=1099511627776) (hp:nb<=p) (hp2:p<=1099511627776) (hnb:nb<=2000) (hnb0:0<nb) (hbg:b≠g)
  (hh:w.heap[g]? = some (.cells #[.slice (some ⟨b,off,none⟩) nb cb,.int .i64 p] 86 (0,0)))
  (hcell:∀ j,j<nb->w.cell? ⟨b,off+j,none⟩=some (.int .u8 (zs.getD j 0))) (hz:∀ j,0<=zs.getD j 0/\zs.getD j 0<=255) :
  Calls Tryz.prog 18 #[.pointer (some ⟨g,0,none⟩),.int .i64 n] w fun e w'=> ∃ (x:Int) (q:Nat),0<=x/\e = .returned (.int .i64 (x.tmod n))/\w'=(w.setCell ⟨g,1,none⟩ (.int .i64 (p+1))).drewN q:=by
 have hc0:w.cell? ⟨g,0,none⟩=some (.slice (some ⟨b,off,none⟩) nb cb):=by rw [cell_of_row w g 0 _ _ _ hh]; rfl
 have hc1:w.cell? ⟨g,1,none⟩=some (.int .i64 p):=by rw [cell_of_row w g 1 _ _ _ hh]; rfl
 have hf1:w.frozen? ⟨g,1,none⟩=false:=frozen_of_row w g 1 _ _ hh;have hx:=hcell (p % nb) (Nat.mod_lt _ hnb0);have hy:=hcell ((p*7+3) % nb) (Nat.mod_lt _ hnb0);have hzp:=hz (p % nb);have hzy:=hz ((p*7+3) % nb);obtain ⟨z,HZ⟩:∃ z,Hid (z=zs.getD (p % nb) 0):=⟨_,rfl⟩;obtain ⟨y,HY⟩:∃ y,Hid (y=zs.getD ((p*7+3) % nb) 0):=⟨_,rfl⟩;rw [<-HZ.out] at hx hzp;rw [<-HY.out] at hy hzy;obtain ⟨hz1,hz2⟩:=hzp;obtain ⟨hy1,hy2⟩:=hzy;clear hh hcell hz;have hd1:decide (n<1)=false:=by simp; omega
 have hd2:((nb:Int)==0)=false:=by simp; omega
 have hm1:0<=(p:Int) % (nb:Int):=Int.emod_nonneg _ (by omega);have hm2:(p:Int) % (nb:Int)<(nb:Int):=Int.emod_lt_of_pos _ (by omega);have hm3:0<=((p:Int)*7+3) % (nb:Int):=Int.emod_nonneg _ (by omega);have hm4:((p:Int)*7+3) % (nb:Int)<(nb:Int):=Int.emod_lt_of_pos _ (by omega);have hq1:0<=(p:Int) / (nb:Int):=Int.ediv_nonneg (by omega) (by omega);have hq2:(p:Int) / (nb:Int)<=(p:Int):=Int.ediv_le_self _ (by omega);go_enter Tryz.func18,Tryz.ntmps18;go_wp2;go_quiet (fail)
 go_wp2;go_ret;exact ⟨_,_,j5K (z*131+y*1117+(p:Int)*29+(p:Int) / (nb:Int)*53) _ (by omega) (by omega) (by omega) (by omega),rfl,rfl⟩
theorem Rd.after {w:World} {g P:Nat} (ab:Option Addr) (nb cb p:Nat) (zs:List Int) (hh:w.heap[g]? = some (.cells #[.slice ab nb cb,.int .i64 p] 86 (0,0))) (hp:p<=P) (hn:nb<=2000)
  (hc:0<nb->∃ b off,ab=some ⟨b,off,none⟩/\b<g/\b<w.heap.size/\∀ j,j<nb->w.cell? ⟨b,off+j,none⟩=some (.int .u8 (zs.getD j 0))) (hz:∀ j,0<=zs.getD j 0/\zs.getD j 0<=255) :
  Rd (w.setCell ⟨g,1,none⟩ (.int .i64 (p+1))) g (P+1)/\w.grownBy (w.setCell ⟨g,1,none⟩ (.int .i64 (p+1))) (some g):=by
 have hsz:(w.setCell ⟨g,1,none⟩ (.int .i64 (p+1))).heap.size=w.heap.size:=by simp [World.setCell]
 refine ⟨⟨ab,nb,cb,p+1,zs,?_,by omega,hn,fun h0=> ?_,hz⟩,⟨rfl,rfl,rfl,by rw [hsz]; exact Nat.le_refl _,fun k _ hk=>heap_setCell_other w ⟨g,1,none⟩ k _ (fun e=>hk (by simp [e]))⟩⟩
 ·
  rw [heap_setCell_same w g 1 _ _ _ hh]; rfl
 ·
  obtain ⟨b,off,rfl,hne,hbl,hcell⟩:=hc h0;refine ⟨b,off,rfl,hne,by rw [hsz]; exact hbl,fun j hj=> ?_⟩;rw [World.cell?_of_block (w:=w) (heap_setCell_other w ⟨g,1,none⟩ b _ (Nat.ne_of_lt hne))];exact hcell j hj
theorem rd_drewN {w:World} {g P n:Nat} (h:Rd w g P):Rd (w.drewN n) g P:=h.below (below_drewN (Below.refl _ _) _)
theorem z1L (g P:Nat) (n:Int) (w:World) (hn:1<=n) (hn2:n<=1099511627776) (hP:P<=1099511627776) (h:Rd w g P) :
  Calls Tryz.prog 18 #[.pointer (some ⟨g,0,none⟩),.int .i64 n] w fun e w'=> ∃ r:Int,0<=r/\r<n/\e = .returned (.int .i64 r)/\Rd w' g (P+1)/\w.grownBy w' (some g):=by
 obtain ⟨ab,nb,cb,p,zs,hh,hp,hnb,hc,hz⟩:=h;have R:=Rd.after ab nb cb p zs hh hp hnb hc hz;by_cases h0:0<nb
 ·
  obtain ⟨b,off,rfl,hbg,hbl,hcell⟩:=hc h0;by_cases hlt:p<nb
  ·
   refine (z6M g cb p b off nb zs n w hn hn2 hlt hnb (Nat.ne_of_lt hbg) hh hcell hz).mono fun e w' ⟨he,hw⟩=> ?_;subst hw;exact ⟨_,Int.emod_nonneg _ (by omega),Int.emod_lt_of_pos _ (by omega),he,R.1,R.2⟩
  ·
   refine (pick_far g cb p b off nb zs n w hn hn2 (by omega) (by omega) hnb h0 (Nat.ne_of_lt hbg) hh hcell hz).mono fun e w' ⟨x,q,hx,he,hw⟩=> ?_;subst hw;exact ⟨_,Int.tmod_nonneg _ hx,Int.tmod_lt_of_pos _ (by omega),he,rd_drewN R.1,v2U R.2 (below_drewN (Below.refl _ _) _)⟩
 ·
  obtain rfl:nb=0:=by omega
  refine (z6L g cb p ab n w hn (by omega) hh).mono fun e w' ⟨he,hw⟩=> ?_;subst hw;exact ⟨0,by omega,by omega,he,R.1,R.2⟩
theorem k1G (g P lo hi:Nat) (v:Value) (xs:List Int) (w:World) (hP:P<=1099511627776) (h:Rd w g P) (ho:Own w lo hi v xs) (hg:g<lo) (hpos:0<xs.length) (hmax:xs.length<=1099511627776) :
  Calls Tryz.prog 52 #[.pointer (some ⟨g,0,none⟩),v] w fun e w'=> ∃ z:Int,z∈xs/\e = .returned (.int .i64 z)/\Rd w' g (P+1)/\w.grownBy w' (some g):=by
 rcases ho.ints.cases with ⟨a,cap,rfl,rfl⟩ | ⟨b,off,cap,_,hlim,rfl,hbw,hc⟩
 ·
  simp at hpos
 ·
  obtain ⟨n,hn⟩:∃ n,n=xs.length:=⟨_,rfl⟩;have HN:Hid (n=xs.length):=hn;rw [<-hn] at hpos hmax hlim ⊢;clear hn;go_enter Tryz.func52,Tryz.ntmps52;go_wp2_with fail;refine (z1L g P n _ (by omega) (by omega) hP h).mono ?_;rintro e w1 ⟨r,hr0,hrn,rfl,hrd,hgr⟩;have ho1:=ho.kept hgr (fun k hk=>by simp at hk; omega);obtain ⟨j,rfl⟩:=Int.eq_ofNat_of_zero_le hr0;have hjn:j<n:=by omega
  have hcj:w1.cell? ⟨b,off+j,none⟩=some (.int .i64 (xs.getD j 0)):=by
   rcases ho1.ints.cases with ⟨a,cap',h1,h2⟩ | ⟨b',off',cap',_,_,h2,_,hc'⟩
   ·
    subst h1; simp at HN; have:=HN.out; omega
   ·
    simp only [Value.slice.injEq,Option.some.injEq,Addr.mk.injEq,and_true] at h2;obtain ⟨⟨rfl,rfl⟩,_⟩:=h2;exact hc' j (by rw [<-HN.out]; exact hjn)
  obtain ⟨z,HZ⟩:∃ z,Hid (z=xs.getD j 0):=⟨_,rfl⟩;rw [<-HZ.out] at hcj;clear ho ho1 hc h;go_wp2;go_ret;exact ⟨z,by rw [HZ.out]; exact k1O (by rw [<-HN.out]; exact hjn),rfl,hrd,hgr⟩
def v2W (xs:List Int):Prop:=∀ x∈xs,-2000000000<=x/\x<=2000000000
theorem j5X {xs:List Int} {z:Int} (h:v2W xs) (hz : -2000000000<=z/\z<=2000000000):v2W (xs++[z]):=fun x hx=>by
 rcases List.mem_append.1 hx with e | e
 ·
  exact h x e
 ·
  have:x=z:=by simpa using e
  rw [this]; exact hz
theorem Rd.le {w:World} {g P Q:Nat} (h:Rd w g P) (hq:P<=Q):Rd w g Q:=by
 obtain ⟨ab,nb,cb,p,zs,hh,hp,r⟩:=h;exact ⟨ab,nb,cb,p,zs,hh,by omega,r⟩
theorem Rd.grown {w w':World} {g P:Nat} {row:Option Nat} (h:Rd w g P) (hg:w.grownBy w' row) (hold:∀ b,row=some b->g<b):Rd w' g P:=by
 have hgl:=h.lt;obtain ⟨ab,nb,cb,p,zs,hh,hp,hn,hc,hz⟩:=h;refine ⟨ab,nb,cb,p,zs,(hg.block g hgl (fun e=>by have:=hold g e.symm; omega)).trans hh,hp,hn,fun h0=> ?_,hz⟩;obtain ⟨b,off,rfl,hbg,hbl,hcell⟩:=hc h0;exact ⟨b,off,rfl,hbg,Nat.lt_of_lt_of_le hbl hg.size,fun j hj=>hg.cell (hcell j hj) (fun e=>by have:=hold b e.symm; omega)⟩
theorem z6G (w:World) (ab:Option Addr) (nb cb:Nat) (zs:List Int) (hn:nb<=2000)
  (hc:0<nb->∃ b off,ab=some ⟨b,off,none⟩/\b<w.heap.size/\∀ j,j<nb->w.cell? ⟨b,off+j,none⟩=some (.int .u8 (zs.getD j 0))) (hz:∀ j,0<=zs.getD j 0/\zs.getD j 0<=255) :
  Rd (w.alloc (.cells #[.slice ab nb cb,.int .i64 0] 86)) w.heap.size 0:=by
 have hb:Below w.heap.size w (w.alloc (.cells #[.slice ab nb cb,.int .i64 0] 86)):=(Below.refl _ _).alloc (Nat.le_refl _) _;refine ⟨ab,nb,cb,0,zs,heap_alloc_new w _,Nat.le_refl _,hn,fun h0=> ?_,hz⟩;obtain ⟨b,off,rfl,hbl,hcell⟩:=hc h0;exact ⟨b,off,rfl,by omega,by simp; omega,fun j hj=>(hb.cell (p:=⟨b,off+j,none⟩) hbl).trans (hcell j hj)⟩
theorem j5D {zs:List Int} (h:∀ n∈zs,(Lit.int .u8 n).wf=true):∀ j,0<=zs.getD j 0/\zs.getD j 0<=255:=by
 intro j;by_cases hj:j<zs.length
 ·
  exact bounds_u8 (h _ (k1O hj))
 ·
  simp [List.getD,hj]
theorem k4G (a:Option Addr) (len cap:Nat) (zs:List Int) (w:World) (h:z5P .u8 w a len cap zs) :
  Calls Tryz.prog 16 #[.slice a len cap] w fun e w'=>e = .returned (.pointer (some ⟨w.heap.size,0,none⟩))/\Rd w' w.heap.size 0/\Below w.heap.size w w':=by
 by_cases hl:len<=2000
 ·
  rcases h with ⟨rfl,rfl,rfl,rfl⟩ | ⟨x,rfl,hlc,hm,hz,hcell,hwf⟩
  ·
   go_enter Tryz.func16,Tryz.ntmps16;go_wp2;go_ret;exact ⟨rfl,z6G w none 0 0 [] (by omega) (fun h=>by omega) (fun j=>by simp),(Below.refl _ _).alloc (Nat.le_refl _) _⟩
  ·
   have hd:¬ (2000:Int)<(len:Int):=by omega
   obtain ⟨b,off,spot⟩:=x;have hR:Rd (w.alloc (.cells #[.slice (some ⟨b,off,spot⟩) len cap,.int .i64 0] 86)) w.heap.size 0:=by
    refine z6G w _ len cap zs hl (fun h0=> ?_) (j5D hwf);have hc0:=hcell 0 (by omega);have hspot:spot=none:=by simpa [Addr.add] using World.cell?_spot hc0
    subst hspot;exact ⟨b,off,rfl,v1S hc0,fun j hj=>by have:=hcell j (by omega); rwa [Addr.add_lit] at this⟩
   clear hcell hwf;go_enter Tryz.func16,Tryz.ntmps16;go_wp2;go_ret;exact ⟨rfl,hR,(Below.refl _ _).alloc (Nat.le_refl _) _⟩
 ·
  rcases h with ⟨rfl,rfl,rfl,rfl⟩ | ⟨x,rfl,hlc,hm,hz,hcell,hwf⟩
  ·
   omega
  ·
   obtain ⟨b,off,spot⟩:=x;have hc0:=hcell 0 (by omega);have hspot:spot=none:=by simpa [Addr.add] using World.cell?_spot hc0
   subst hspot;have hd:(2000:Int)<(len:Int):=by omega
   have hR:Rd (w.alloc (.cells #[.slice (some ⟨b,off,none⟩) 2000 cap,.int .i64 0] 86)) w.heap.size 0:=
    z6G w _ 2000 cap zs (by omega) (fun _=>⟨b,off,rfl,v1S hc0,fun j hj=>by have:=hcell j (by omega); rwa [Addr.add_lit] at this⟩) (j5D hwf)
   clear hcell hwf;go_enter Tryz.func16,Tryz.ntmps16;go_wp2;go_ret;exact ⟨rfl,hR,(Below.refl _ _).alloc (Nat.le_refl _) _⟩
theorem j4Z (g P:Nat) (wd:Int) (w:World) (h0:0<=wd) (h7:wd<=7) (hP:P<=1099511627000) (h:Rd w g P) :
  Calls Tryz.prog 99 #[.pointer (some ⟨g,0,none⟩),.int .i64 wd] w fun e w'=>
   ∃ v,e = .returned v/\∃ xs:List Int,xs.length=wd.toNat/\v2W xs/\Own w' w.heap.size w'.heap.size v xs/\Rd w' g (P+7)/\w.grownBy w' (some g):=by
 obtain ⟨i0,hi,hz0,hz1,hz2⟩:=info_parts infoInt;have hgw:=h.lt;have ho1:(w.alloc (.cells #[] 3)).ownsRow w.heap.size 3 1 (.slice (some ⟨w.heap.size,0,none⟩) 0 0) 0 []:=World.ownsRow_lit w #[] 0 (Nat.le_refl _) (by unfold maxLen; omega) rfl;have hr1:Rd (w.alloc (.cells #[] 3)) g P:=h.below ((Below.refl _ _).alloc (Nat.le_refl _) _);clear h;go_enter Tryz.func99,Tryz.ntmps99;go_wp2;go_loopw [5,6] (fun v i wr=> ∃ (k:Nat) (xs:List Int),(k:Int)<=wd/\Hid (v2W xs)/\i = .int .i64 k/\wr.ownsRow w.heap.size 3 1 v k (xs.map (Value.int .i64))/\Rd wr g (P+k)/\w.grownBy wr (some g))
  (fun _ i _=>wd.toNat - (intOf i).toNat)
 case atStart=>exact ⟨0,[],h0,(fun x hx=>by simp at hx),rfl,ho1,hr1,World.grownBy_alloc w _ _⟩
 case round=>
  obtain ⟨k,xs,hk,HSM,rfl,ho,hr,hg⟩:=hrel;clear ho1 hr1;by_cases hlt:(k:Int)<wd
  ·
   have hlit:Own (wr.alloc (.cells #[.int .i64 0,.int .i64 1,.int .i64 2,.int .i64 3,.int .i64 1,.int .i64 2,.int .i64 (-1),.int .i64 5] 3)) wr.heap.size (wr.heap.size+1) (.slice (some ⟨wr.heap.size,0,none⟩) 8 8) [0,1,2,3,1,2,-1,5]:=v1K wr [0,1,2,3,1,2,-1,5] (by decide);have hr1:Rd (wr.alloc (.cells #[.int .i64 0,.int .i64 1,.int .i64 2,.int .i64 3,.int .i64 1,.int .i64 2,.int .i64 (-1),.int .i64 5] 3)) g (P+k):=hr.below ((Below.refl _ _).alloc (Nat.le_refl _) _);have ho1:=ho.alloc (.cells #[.int .i64 0,.int .i64 1,.int .i64 2,.int .i64 3,.int .i64 1,.int .i64 2,.int .i64 (-1),.int .i64 5] 3);have hg1:=x1F hg (.cells #[.int .i64 0,.int .i64 1,.int .i64 2,.int .i64 3,.int .i64 1,.int .i64 2,.int .i64 (-1),.int .i64 5] 3);have hgs:=hg.size;clear ho hr hg;go_wp2_with fail;refine (k1G g _ _ _ _ _ _ (by omega) hr1 hlit (by omega) (by decide) (by decide)).mono ?_;rintro e w1 ⟨z,hz,rfl,hrd,hgr⟩;have HSM2:Hid (v2W (xs++[z])):=j5X HSM.out (by simp at hz; omega);clear hz hlit hr1;have hkl:xs.length=k:=by simpa using ho1.1
   have ho2:=ho1.kept hgr (.inr fun e=>by have:=(ho1.lt g e).1; omega);have hg2:w.grownBy w1 (some g):=z1G hg1 hgr;have hgs1:=hgr.size;simp only [World.size_alloc] at hgs1;have hs1:z1E (w1.alloc (.cells #[.int .i64 z] 3)) (.slice (some ⟨w1.heap.size,0,none⟩) 1 1) [z]:=(v1K w1 [z] (by simp)).ints;have ho3:=ho2.alloc (.cells #[.int .i64 z] 3);have hr3:Rd (w1.alloc (.cells #[.int .i64 z] 3)) g (P+k+1):=hrd.below ((Below.refl _ _).alloc (Nat.le_refl _) _);have hg3:=x1F hg2 (.cells #[.int .i64 z] 3);clear ho1 ho2 hg1 hg2 hgr hrd;go_wp2_with (at_builtin; refine z1Q rfl (.tmp 13) (.tmp 17) 28 rfl w.heap.size 3 i0 Tryz.underlying28 hi hz0 hz1 hz2 u5 k _ rfl ho3 (.slice (some ⟨w1.heap.size,0,none⟩) 1 1) [z] rfl hs1 (by simp; omega) (by simp; omega) ?_; intro v' w2 hown2 hgrow2 _);have hr4:Rd w2 g (P+(k+1)):=hr3.grown hgrow2 (fun b e=>by have:=(ho3.lt b e).1; omega);have hg4:w.grownBy w2 (some g):=x1T hg3 hgrow2 (fun i hi'=>(ho3.lt i hi').1);have ho4:w2.ownsRow w.heap.size 3 1 v' (k+1) ((xs++[z]).map (Value.int .i64)):=by simpa using hown2
   clear ho3 hr3 hg3 hown2 hgrow2 hs1;go_wp2;go_roundw
   case rel=>exact ⟨k+1,xs++[z],by omega,HSM2,by go_num,ho4,hr4,hg4⟩
   case measure=>simp [intOf]; omega
  ·
   have hkl:xs.length=k:=by simpa using ho.1
   have ho2:=x1Y ho (by omega);have hr2:Rd wr g (P+7):=hr.le (by omega);clear ho hr;go_wp2;go_ret;exact ⟨_,rfl,xs,by omega,HSM.out,ho2,hr2,hg⟩
def Cel.Low (c:Cel):Prop:=(-2000000000<=c.k/\c.k<=2000000000)/\(-2000000000<=c.a/\c.a<=2000000000)/\(-2000000000<=c.b/\c.b<=2000000000)/\-2000000000<=c.n/\c.n<=2000000000
theorem x1L {w w1:World} {g b:Nat} {o:Obj} (hg:w.grownBy w1 (some g)) (h:w.heap[b]? = some o) (hne:b≠g):w1.heap[b]? = some o:=
 (hg.block b (Array.getElem?_eq_some_iff.1 h).1 (by simpa using hne)).trans h
theorem j1O (W:World) (b o:Nat) (v:Value):W.grownBy (W.setCell ⟨b,o,none⟩ v) (some b):=
 ⟨rfl,rfl,rfl,by simp,fun k _ hk=>Below.heap_setCell _ _ _ _ (by simpa using hk)⟩
theorem q1V {w wk:World} {g b P o:Nat} (v:Value) (h:Rd wk g P/\w.grownBy wk (some g)) (hb:w.heap.size<=b) (hg:g<w.heap.size):Rd (wk.setCell ⟨b,o,none⟩ v) g P/\w.grownBy (wk.setCell ⟨b,o,none⟩ v) (some g):=
 ⟨h.1.grown (j1O wk b o v) (fun k hk=>by simp at hk; omega),x1T h.2 (j1O wk b o v) (fun k hk=>by simp at hk; omega)⟩
theorem q2R (g P:Nat) (wide:Int) (w:World) (h1:1<=wide) (h2:wide<=1000) (hP:P<=1099511626000) (h:Rd w g P) :
  Calls Tryz.prog 93 #[.pointer (some ⟨g,0,none⟩),.int .i64 wide] w fun e w'=>
   ∃ c:Cel,e = .returned (.agg #[.int .i64 c.k,.int .i64 c.a,.int .i64 c.b,.int .i64 c.n])/\c.Low/\Rd w' g (P+3)/\w.grownBy w' (some g):=by
 have hgw:=h.lt;go_enter Tryz.func93,Tryz.ntmps93;go_wp2_with fail;refine (z1L g P 5 _ (by omega) (by omega) (by omega) (h.below (z1B _))).mono ?_;rintro e w1 ⟨r,hr0,hr5,rfl,hrd1,hg1⟩;have z1:=x1L hg1 (alloc_at w _) (by omega);have G1:Hid (w.grownBy w1 (some g)):=z1G (World.grownBy_alloc w _ _) hg1;have hs1:w.heap.size<w1.heap.size:=(Array.getElem?_eq_some_iff.1 z1).1;clear hg1 h;by_cases hr:r=0
 ·
  subst hr;have hlit:=v1K w1 [0,1,2,-1,5] (by simp);have hr4:Rd (w1.alloc (.cells #[.int .i64 0,.int .i64 1,.int .i64 2,.int .i64 (-1),.int .i64 5] 3)) g _:=hrd1.below (z1B _);go_wp2_with fail;refine (k1G g _ _ _ _ _ _ (by omega) hr4 hlit (by omega) (by simp) (by simp)).mono ?_;rintro e w2 ⟨z,hz,rfl,hrd2,hg2⟩;have hz2 : -1<=z/\z<=5:=by simp at hz; omega
  have zl:=x1L (z1G (World.grownBy_alloc w1 _ _) hg2) z1 (by omega);have GL:Hid (w.grownBy w2 (some g)):=z1G G1.out (z1G (World.grownBy_alloc w1 _ _) hg2);clear hz hlit hr4 hg2 z1 hrd1;have F:=q1V (o:=3) (.int .i64 z) (q1V (o:=2) (.int .i64 0) (q1V (o:=1) (.int .i64 0) (q1V (o:=0) (.int .i64 2) ⟨hrd2.le (Q:=P+3) (by omega),GL.out⟩ (Nat.le_refl _) hgw) (Nat.le_refl _) hgw) (Nat.le_refl _) hgw) (Nat.le_refl _) hgw;obtain ⟨c0,c1,c2,c3,f0,f1,f2,f3⟩:=j1U zl;go_wp2;exact bodyPost_ret (v:=.agg #[.int .i64 2,.int .i64 0,.int .i64 0,.int .i64 z]) (by simp [results,Tryz.results93,go_sem,c0,c1,c2,c3]) rfl ⟨⟨2,0,0,z⟩,rfl,⟨by simp only; omega,by simp only; omega,by simp only; omega,by simp only; omega⟩,F.1,F.2⟩
 ·
  have hf:(r==0)=false:=by simpa using hr
  by_cases hq:r=1
  ·
   subst hq;go_wp2_with fail;refine (z1L g _ wide _ (by omega) (by omega) (by omega) hrd1).mono ?_;rintro e w2 ⟨x,hx0,hx1,rfl,hrd2,hg2⟩;have z2:=x1L hg2 z1 (by omega);have G2:Hid (w.grownBy w2 (some g)):=z1G G1.out hg2;clear hg2 z1 hrd1;go_wp2_with fail;refine (z1L g _ wide _ (by omega) (by omega) (by omega) hrd2).mono ?_;rintro e w3 ⟨y,hy0,hy1,rfl,hrd3,hg3⟩;have zl:=x1L hg3 z2 (by omega);have GL:Hid (w.grownBy w3 (some g)):=z1G G2.out hg3;clear hg3 z2 hrd2;have F:=q1V (o:=3) (.int .i64 0) (q1V (o:=2) (.int .i64 y) (q1V (o:=1) (.int .i64 x) (q1V (o:=0) (.int .i64 3) ⟨hrd3.le (Q:=P+3) (by omega),GL.out⟩ (Nat.le_refl _) hgw) (Nat.le_refl _) hgw) (Nat.le_refl _) hgw) (Nat.le_refl _) hgw;obtain ⟨c0,c1,c2,c3,f0,f1,f2,f3⟩:=j1U zl;go_wp2;exact bodyPost_ret (v:=.agg #[.int .i64 3,.int .i64 x,.int .i64 y,.int .i64 0]) (by simp [results,Tryz.results93,go_sem,c0,c1,c2,c3]) rfl ⟨⟨3,x,y,0⟩,rfl,⟨by simp only; omega,by simp only; omega,by simp only; omega,by simp only; omega⟩,F.1,F.2⟩
  ·
   have hf2:(r==1)=false:=by simpa using hq
   go_wp2_with fail;refine (z1L g _ wide _ (by omega) (by omega) (by omega) hrd1).mono ?_;rintro e w2 ⟨x,hx0,hx1,rfl,hrd2,hg2⟩;have zl:=x1L hg2 z1 (by omega);have GL:Hid (w.grownBy w2 (some g)):=z1G G1.out hg2;clear hg2 z1 hrd1;have F:=q1V (o:=3) (.int .i64 0) (q1V (o:=2) (.int .i64 0) (q1V (o:=1) (.int .i64 x) (q1V (o:=0) (.int .i64 1) ⟨hrd2.le (Q:=P+3) (by omega),GL.out⟩ (Nat.le_refl _) hgw) (Nat.le_refl _) hgw) (Nat.le_refl _) hgw) (Nat.le_refl _) hgw;obtain ⟨c0,c1,c2,c3,f0,f1,f2,f3⟩:=j1U zl;go_wp2;exact bodyPost_ret (v:=.agg #[.int .i64 1,.int .i64 x,.int .i64 0,.int .i64 0]) (by simp [results,Tryz.results93,go_sem,c0,c1,c2,c3]) rfl ⟨⟨1,x,0,0⟩,rfl,⟨by simp only; omega,by simp only; omega,by simp only; omega,by simp only; omega⟩,F.1,F.2⟩
theorem fin4 {w wk:World} {g b P:Nat} (v0 v1 v2 v3:Value) (h:Rd wk g P/\w.grownBy wk (some g)) (hb:w.heap.size<=b) (hg:g<w.heap.size) :
  Rd ((((wk.setCell ⟨b,0,none⟩ v0).setCell ⟨b,1,none⟩ v1).setCell ⟨b,2,none⟩ v2).setCell ⟨b,3,none⟩ v3) g P/\w.grownBy ((((wk.setCell ⟨b,0,none⟩ v0).setCell ⟨b,1,none⟩ v1).setCell ⟨b,2,none⟩ v2).setCell ⟨b,3,none⟩ v3) (some g):=
 q1V v3 (q1V v2 (q1V v1 (q1V v0 h hb hg) hb hg) hb hg) hb hg
theorem v2J (g P:Nat) (wide:Int) (w:World) (h1:1<=wide) (h2:wide<=1000) (hP:P<=1099511625000) (h:Rd w g P) :
  Calls Tryz.prog 53 #[.pointer (some ⟨g,0,none⟩),.int .i64 wide] w fun e w'=>
   ∃ c:Cel,e = .returned (.agg #[.int .i64 c.k,.int .i64 c.a,.int .i64 c.b,.int .i64 c.n])/\c.Low/\Rd w' g (P+5)/\w.grownBy w' (some g):=by
 have hgw:=h.lt;go_enter Tryz.func53,Tryz.ntmps53;go_wp2_with fail;refine (q2R g P wide _ h1 h2 (by omega) (h.below (z1B _))).mono ?_;rintro e w1 ⟨⟨k,a,b,n⟩,rfl,hlow,hrd1,hg1⟩;have HLOW:Hid (Cel.Low ⟨k,a,b,n⟩):=hlow;have z1:=x1L hg1 (alloc_at w _) (by omega);have G1:Hid (w.grownBy w1 (some g)):=z1G (World.grownBy_alloc w _ _) hg1;have hs1:w.heap.size<w1.heap.size:=(Array.getElem?_eq_some_iff.1 z1).1;clear hg1 h hlow;simp only;go_wp2_with fail;refine (z1L g _ 40 _ (by omega) (by omega) (by omega) (hrd1.below (z1B _))).mono ?_;rintro e w2 ⟨s,hs0,hs40,rfl,hrd2,hg2⟩;have zc:=x1L hg2 (alloc_at w1 _) (by omega);have zr:=x1L (z1G (World.grownBy_alloc w1 _ _) hg2) z1 (by omega);have G2:Hid (w.grownBy w2 (some g)):=z1G G1.out (z1G (World.grownBy_alloc w1 _ _) hg2);have hs2:w1.heap.size<w2.heap.size:=(Array.getElem?_eq_some_iff.1 zc).1;clear hg2 z1 hrd1;by_cases hq0:s=0
 ·
  subst hq0;have hlit:=v1K w2 [0,4,1,2] (by simp);have hr4:Rd (w2.alloc (.cells #[.int .i64 0,.int .i64 4,.int .i64 1,.int .i64 2] 3)) g _:=hrd2.below (z1B _);go_wp2_with fail;refine (k1G g _ _ _ _ _ _ (by omega) hr4 hlit (by omega) (by simp) (by simp)).mono ?_;rintro e w3 ⟨z,hz,rfl,hrd3,hg3⟩;have hz2 : -2000000000<=z/\z<=2000000000:=by simp at hz; omega
  replace zc:=x1L (z1G (World.grownBy_alloc w2 _ _) hg3) zc (by omega);replace zr:=x1L (z1G (World.grownBy_alloc w2 _ _) hg3) zr (by omega);have GL:Hid (w.grownBy w3 (some g)):=z1G G2.out (z1G (World.grownBy_alloc w2 _ _) hg3);clear hz hlit hr4 hg3 hrd2;have F:=fin4 (b:=w.heap.size) (.int .i64 z) (.int .i64 a) (.int .i64 b) (.int .i64 n) (q1V (b:=w1.heap.size) (o:=0) (.int .i64 z) ⟨hrd3.le (Q:=P+5) (by omega),GL.out⟩ (Nat.le_of_lt hs1) hgw) (Nat.le_refl _) hgw;have hl:=HLOW.out;obtain ⟨c0,c1,c2,c3,f0,f1,f2,f3⟩:=j1U zc;obtain ⟨d0,d1,d2,d3,e0,e1,e2,e3⟩:=j1U zr;have hnb:w.heap.size≠w1.heap.size:=by omega
  have hnb2:w1.heap.size≠w.heap.size:=by omega
  clear zc zr;go_wp2;refine bodyPost_ret (v:=.agg #[.int .i64 z,.int .i64 a,.int .i64 b,.int .i64 n]) (by simp [results,Tryz.results53,go_sem,d0,d1,d2,d3]) rfl ⟨⟨z,a,b,n⟩,rfl,?_,F.1,F.2⟩;obtain ⟨q0,q1,q2,q3⟩:=hl;simp only at q0 q1 q2 q3;exact ⟨by simp only; omega,by simp only; omega,by simp only; omega,by simp only; omega⟩
 ·
  have hp0:(s==0)=false:=by simpa using hq0
  by_cases hq1:s=1
  ·
   subst hq1;have hlit:=v1K w2 [-1,wide,6] (by simp);have hr4:Rd (w2.alloc (.cells #[.int .i64 (-1),.int .i64 wide,.int .i64 6] 3)) g _:=hrd2.below (z1B _);go_wp2_with fail;refine (k1G g _ _ _ _ _ _ (by omega) hr4 hlit (by omega) (by simp) (by simp)).mono ?_;rintro e w3 ⟨z,hz,rfl,hrd3,hg3⟩;have hz2 : -2000000000<=z/\z<=2000000000:=by simp at hz; omega
   replace zc:=x1L (z1G (World.grownBy_alloc w2 _ _) hg3) zc (by omega);replace zr:=x1L (z1G (World.grownBy_alloc w2 _ _) hg3) zr (by omega);have GL:Hid (w.grownBy w3 (some g)):=z1G G2.out (z1G (World.grownBy_alloc w2 _ _) hg3);clear hz hlit hr4 hg3 hrd2;have F:=fin4 (b:=w.heap.size) (.int .i64 k) (.int .i64 z) (.int .i64 b) (.int .i64 n) (q1V (b:=w1.heap.size) (o:=1) (.int .i64 z) ⟨hrd3.le (Q:=P+5) (by omega),GL.out⟩ (Nat.le_of_lt hs1) hgw) (Nat.le_refl _) hgw;have hl:=HLOW.out;obtain ⟨c0,c1,c2,c3,f0,f1,f2,f3⟩:=j1U zc;obtain ⟨d0,d1,d2,d3,e0,e1,e2,e3⟩:=j1U zr;have hnb:w.heap.size≠w1.heap.size:=by omega
   have hnb2:w1.heap.size≠w.heap.size:=by omega
   clear zc zr;go_wp2;refine bodyPost_ret (v:=.agg #[.int .i64 k,.int .i64 z,.int .i64 b,.int .i64 n]) (by simp [results,Tryz.results53,go_sem,d0,d1,d2,d3]) rfl ⟨⟨k,z,b,n⟩,rfl,?_,F.1,F.2⟩;obtain ⟨q0,q1,q2,q3⟩:=hl;simp only at q0 q1 q2 q3;exact ⟨by simp only; omega,by simp only; omega,by simp only; omega,by simp only; omega⟩
  ·
   have hp1:(s==1)=false:=by simpa using hq1
   by_cases hq2:s=2
   ·
    subst hq2;have hlit:=v1K w2 [1000000001,1,-1000000000] (by simp);have hr4:Rd (w2.alloc (.cells #[.int .i64 1000000001,.int .i64 1,.int .i64 (-1000000000)] 3)) g _:=hrd2.below (z1B _);go_wp2_with fail;refine (k1G g _ _ _ _ _ _ (by omega) hr4 hlit (by omega) (by simp) (by simp)).mono ?_;rintro e w3 ⟨z,hz,rfl,hrd3,hg3⟩;have hz2 : -2000000000<=z/\z<=2000000000:=by simp at hz; omega
    replace zc:=x1L (z1G (World.grownBy_alloc w2 _ _) hg3) zc (by omega);replace zr:=x1L (z1G (World.grownBy_alloc w2 _ _) hg3) zr (by omega);have GL:Hid (w.grownBy w3 (some g)):=z1G G2.out (z1G (World.grownBy_alloc w2 _ _) hg3);clear hz hlit hr4 hg3 hrd2;have F:=fin4 (b:=w.heap.size) (.int .i64 k) (.int .i64 a) (.int .i64 b) (.int .i64 z) (q1V (b:=w1.heap.size) (o:=3) (.int .i64 z) ⟨hrd3.le (Q:=P+5) (by omega),GL.out⟩ (Nat.le_of_lt hs1) hgw) (Nat.le_refl _) hgw;have hl:=HLOW.out;obtain ⟨c0,c1,c2,c3,f0,f1,f2,f3⟩:=j1U zc;obtain ⟨d0,d1,d2,d3,e0,e1,e2,e3⟩:=j1U zr;have hnb:w.heap.size≠w1.heap.size:=by omega
    have hnb2:w1.heap.size≠w.heap.size:=by omega
    clear zc zr;go_wp2;refine bodyPost_ret (v:=.agg #[.int .i64 k,.int .i64 a,.int .i64 b,.int .i64 z]) (by simp [results,Tryz.results53,go_sem,d0,d1,d2,d3]) rfl ⟨⟨k,a,b,z⟩,rfl,?_,F.1,F.2⟩;obtain ⟨q0,q1,q2,q3⟩:=hl;simp only at q0 q1 q2 q3;exact ⟨by simp only; omega,by simp only; omega,by simp only; omega,by simp only; omega⟩
   ·
    have hp2:(s==2)=false:=by simpa using hq2
    by_cases hq3:s=3
    ·
     subst hq3;have hlit:=v1K w2 [1,-1,6] (by simp);have hr4:Rd (w2.alloc (.cells #[.int .i64 1,.int .i64 (-1),.int .i64 6] 3)) g _:=hrd2.below (z1B _);go_wp2_with fail;refine (k1G g _ _ _ _ _ _ (by omega) hr4 hlit (by omega) (by simp) (by simp)).mono ?_;rintro e w3 ⟨z,hz,rfl,hrd3,hg3⟩;have hz2 : -2000000000<=z/\z<=2000000000:=by simp at hz; omega
     replace zc:=x1L (z1G (World.grownBy_alloc w2 _ _) hg3) zc (by omega);replace zr:=x1L (z1G (World.grownBy_alloc w2 _ _) hg3) zr (by omega);have GL:Hid (w.grownBy w3 (some g)):=z1G G2.out (z1G (World.grownBy_alloc w2 _ _) hg3);clear hz hlit hr4 hg3 hrd2;have F:=fin4 (b:=w.heap.size) (.int .i64 k) (.int .i64 a) (.int .i64 z) (.int .i64 n) (q1V (b:=w1.heap.size) (o:=2) (.int .i64 z) ⟨hrd3.le (Q:=P+5) (by omega),GL.out⟩ (Nat.le_of_lt hs1) hgw) (Nat.le_refl _) hgw;have hl:=HLOW.out;obtain ⟨c0,c1,c2,c3,f0,f1,f2,f3⟩:=j1U zc;obtain ⟨d0,d1,d2,d3,e0,e1,e2,e3⟩:=j1U zr;have hnb:w.heap.size≠w1.heap.size:=by omega
     have hnb2:w1.heap.size≠w.heap.size:=by omega
     clear zc zr;go_wp2;refine bodyPost_ret (v:=.agg #[.int .i64 k,.int .i64 a,.int .i64 z,.int .i64 n]) (by simp [results,Tryz.results53,go_sem,d0,d1,d2,d3]) rfl ⟨⟨k,a,z,n⟩,rfl,?_,F.1,F.2⟩;obtain ⟨q0,q1,q2,q3⟩:=hl;simp only at q0 q1 q2 q3;exact ⟨by simp only; omega,by simp only; omega,by simp only; omega,by simp only; omega⟩
    ·
     have hp3:(s==3)=false:=by simpa using hq3
     have F:=fin4 (b:=w.heap.size) (.int .i64 k) (.int .i64 a) (.int .i64 b) (.int .i64 n) ⟨hrd2.le (Q:=P+5) (by omega),G2.out⟩ (Nat.le_refl _) hgw;have hl:=HLOW.out;obtain ⟨c0,c1,c2,c3,f0,f1,f2,f3⟩:=j1U zc;obtain ⟨d0,d1,d2,d3,e0,e1,e2,e3⟩:=j1U zr;have hnb:w.heap.size≠w1.heap.size:=by omega
     have hnb2:w1.heap.size≠w.heap.size:=by omega
     clear zc zr;go_wp2;refine bodyPost_ret (v:=.agg #[.int .i64 k,.int .i64 a,.int .i64 b,.int .i64 n]) (by simp [results,Tryz.results53,go_sem,d0,d1,d2,d3]) rfl ⟨⟨k,a,b,n⟩,rfl,?_,F.1,F.2⟩;obtain ⟨q0,q1,q2,q3⟩:=hl;simp only at q0 q1 q2 q3;exact ⟨by simp only; omega,by simp only; omega,by simp only; omega,by simp only; omega⟩
theorem fin10 {w wk:World} {g b P:Nat} (v0 v1 v2 v3 v4 v5 v6 v7 v8 v9:Value) (h:Rd wk g P/\w.grownBy wk (some g)) (hb:w.heap.size<=b) (hg:g<w.heap.size) :
  Rd ((((((((((wk.setCell ⟨b,0,none⟩ v0).setCell ⟨b,1,none⟩ v1).setCell ⟨b,2,none⟩ v2).setCell ⟨b,3,none⟩ v3).setCell ⟨b,4,none⟩ v4).setCell ⟨b,5,none⟩ v5).setCell ⟨b,6,none⟩ v6).setCell ⟨b,7,none⟩ v7).setCell ⟨b,8,none⟩ v8).setCell ⟨b,9,none⟩ v9) g P/\w.grownBy ((((((((((wk.setCell ⟨b,0,none⟩ v0).setCell ⟨b,1,none⟩ v1).setCell ⟨b,2,none⟩ v2).setCell ⟨b,3,none⟩ v3).setCell ⟨b,4,none⟩ v4).setCell ⟨b,5,none⟩ v5).setCell ⟨b,6,none⟩ v6).setCell ⟨b,7,none⟩ v7).setCell ⟨b,8,none⟩ v8).setCell ⟨b,9,none⟩ v9) (some g):=
 (q1V v9 (q1V v8 (q1V v7 (q1V v6 (q1V v5 (q1V v4 (q1V v3 (q1V v2 (q1V v1 (q1V v0 h hb hg) hb hg) hb hg) hb hg) hb hg) hb hg) hb hg) hb hg) hb hg) hb hg)
def Tst.Low (t:Tst):Prop:=(-2000000000<=t.k/\t.k<=2000000000)/\t.l.Low/\t.r.Low
theorem k3D (g P:Nat) (wide:Int) (w:World) (h1:1<=wide) (h2:wide<=1000) (hP:P<=1099511624000) (h:Rd w g P) :
  Calls Tryz.prog 92 #[.pointer (some ⟨g,0,none⟩),.int .i64 wide] w fun e w'=>
   ∃ t:Tst,e = .returned (.agg (t10 t).toArray)/\t.Low/\Rd w' g (P+8)/\w.grownBy w' (some g):=by
 have hgw:=h.lt;go_enter Tryz.func92,Tryz.ntmps92;go_wp2_with fail;refine (z1L g P 2 _ (by omega) (by omega) (by omega) (h.below (z1B _))).mono ?_;rintro e w1 ⟨r,hr0,hr2,rfl,hrd1,hg1⟩;have z1:=x1L hg1 (alloc_at w _) (by omega);have G1:Hid (w.grownBy w1 (some g)):=z1G (World.grownBy_alloc w _ _) hg1;clear hg1 h;go_wp2_with fail;refine (z1L g _ 3 _ (by omega) (by omega) (by omega) hrd1).mono ?_;rintro e w2 ⟨q,hq0,hq3,rfl,hrd2,hg2⟩;have z2:=x1L hg2 z1 (by omega);have G2:Hid (w.grownBy w2 (some g)):=z1G G1.out hg2;clear hg2 hrd1 z1;go_wp2_with fail;refine (q2R g _ wide _ h1 h2 (by omega) hrd2).mono ?_;rintro e w3 ⟨⟨lk,la,lb,ln⟩,rfl,hl,hrd3,hg3⟩;have z3:=x1L hg3 z2 (by omega);have G3:Hid (w.grownBy w3 (some g)):=z1G G2.out hg3;have HLL:Hid (Cel.Low ⟨lk,la,lb,ln⟩):=hl;clear hg3 hrd2 z2 hl;simp only;go_wp2_with fail;refine (q2R g _ wide _ h1 h2 (by omega) hrd3).mono ?_;rintro e w4 ⟨⟨rk,ra,rb,rn⟩,rfl,hl,hrd4,hg4⟩;have z4:=x1L hg4 z3 (by omega);have G4:Hid (w.grownBy w4 (some g)):=z1G G3.out hg4;have HLR:Hid (Cel.Low ⟨rk,ra,rb,rn⟩):=hl;clear hg4 hrd3 z3 hl;simp only;obtain ⟨⟨c0,c1,c2,c3,c4,c5,c6,c7,c8,c9⟩,f0,f1,f2,f3,f4,f5,f6,f7,f8,f9⟩:=k5M z4;have hwr:IntKind.i64.wrap (1+r)=1+r:=by unfold IntKind.wrap; simp [IntKind.bits,IntKind.signed]; omega
 have F:=fin10 (b:=w.heap.size) (.int .i64 (1+r)) (.bool (q==0)) (.int .i64 lk) (.int .i64 la) (.int .i64 lb) (.int .i64 ln) (.int .i64 rk) (.int .i64 ra) (.int .i64 rb) (.int .i64 rn) ⟨hrd4.le (Q:=P+8) (by omega),G4.out⟩ (Nat.le_refl _) hgw;clear z4;go_wp2;refine bodyPost_ret (v:=.agg #[.int .i64 (1+r),.bool (q==0),.int .i64 lk,.int .i64 la,.int .i64 lb,.int .i64 ln,.int .i64 rk,.int .i64 ra,.int .i64 rb,.int .i64 rn]) (by simp [results,Tryz.results92,go_sem,c0,c1,c2,c3,c4,c5,c6,c7,c8,c9]) rfl ⟨⟨1+r,q==0,⟨lk,la,lb,ln⟩,⟨rk,ra,rb,rn⟩⟩,rfl,⟨by simp only; omega,HLL.out,HLR.out⟩,F.1,F.2⟩
end Go.Proofs.YtmjaepdplbgohaaGreatDoor
