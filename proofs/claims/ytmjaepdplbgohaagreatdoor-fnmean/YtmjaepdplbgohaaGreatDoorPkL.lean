/- Part of the proof of laws.FnMean: Shelf, Bld, Text, CellsAt, TextMap, Near, AggSpec, GroupFacts, GroupSpec, Groups, GroupRows, TotalOf, GroupImpl. -/
import Derived.Shelf.Strings.Builder1
import Derived.Shelf.Small.Bits
import Derived.Shelf.Strings.BuilderF
import Derived.Shelf.Strings.BuilderK
import Derived.Shelf.Strconv.Itoa0
import Derived.Shelf.Strconv.Itoa1
import Derived.Shelf.LaysM
import Derived.Shelf.Strconv.Itoa2
import Derived.Shelf.Strconv.Itoa3
import Derived.Shelf.Bits.Mul64
import Derived.Shelf.Strings.BuilderCap
import Derived.Test.YtmjaepdplbgohaaGreatDoorProg
import Derived.Test.YtmjaepdplbgohaaGreatDoorPkA
import Derived.Lib.Builder
import Derived.Lib.AppendStr
import Derived.Laws.Externs
import Derived.Lib.Walk
import Derived.Lib.AppendIntMem
import Derived.Lib.ItoaLen
import Derived.Test.YtmjaepdplbgohaaGreatDoorPkI
import Derived.Test.YtmjaepdplbgohaaGreatDoorPkF
import Derived.Maps.Own
import Derived.Maps.Views
import Derived.Maps.Keyed
import Derived.StringKeys
import Derived.Maps.RangeWalk
import Derived.Test.YtmjaepdplbgohaaGreatDoorPkK
set_option maxRecDepth 100000
set_option maxHeartbeats 16000000
set_option linter.unusedVariables false
set_option linter.unusedSimpArgs false
namespace Go.Proofs
open Go.Shelf
def Tryz.lays169_ren:Go.Shelf.Ren:=⟨fun | 169=>156 | n=>n,fun | 70=>209 | 9=>9 | 0=>0 | 72=>211 | 37=>22 | 127=>232 | 3=>3 | 5=>5 | n=>n,fun | n=>n⟩
theorem Tryz.lays169:Go.Proofs.Lays.n169 Tryz.prog Tryz.lays169_ren:={
  mixed:=by kernel_rfl
  f169:=Tryz.func156.trans (congrArg some (by kernel_rfl))
  t0:=Tryz.underlying0
  a0:=Tryz.isAgg0
  z0:=Tryz.sizeOf0
  v0:=Tryz.zeroValue0
  t3:=Tryz.underlying3
  a3:=Tryz.isAgg3
  z3:=Tryz.sizeOf3
  v3:=Tryz.zeroValue3
  t9:=Tryz.underlying9
  a9:=Tryz.isAgg9
  z9:=Tryz.sizeOf9
  v9:=Tryz.zeroValue9
  t37:=Tryz.underlying22
  a37:=Tryz.isAgg22
  z37:=Tryz.sizeOf22
  v37:=Tryz.zeroValue22
  t70:=Tryz.underlying209
  a70:=Tryz.isAgg209
  z70:=Tryz.sizeOf209
  v70:=Tryz.zeroValue209
  t72:=Tryz.underlying211
  a72:=Tryz.isAgg211
  z72:=Tryz.sizeOf211
  v72:=Tryz.zeroValue211
  t127:=Tryz.underlying232
  a127:=Tryz.isAgg232
  z127:=Tryz.sizeOf232
  v127:=Tryz.zeroValue232 }
theorem Tryz.Builder_Extra_169:Builder.Extra Tryz.prog Tryz.lays169_ren:={
  sizeBuilder:=by kernel_rfl
  liesBuilder:=by kernel_rfl
  t5:=Tryz.underlying5
  a5:=Tryz.isAgg5
  z5:=Tryz.sizeOf5
  v5:=Tryz.zeroValue5
  infoByte:=by kernel_rfl
  cellsByte:=by kernel_rfl
  sizeByte:=by kernel_rfl
  neB5:=by decide }
open Go.RowKit in
theorem Tryz.Builder_String_empty (B b:Nat) (w:World) (h:Lib.IsBuilder 211 5 B b [] w) (hBw:B<=w.heap.size) :
    Calls Tryz.prog 156 #[.pointer (some ⟨b,0,none⟩)] w fun e w'=>e = .returned (.string ⟨#[]⟩)/\Below B w w':=Any.Builder_String_empty Tryz.lays169 Tryz.Builder_Extra_169 B b w h hBw
open Go.RowKit in
theorem Tryz.Builder_String_any (B b:Nat) (l:List UInt8) (w:World) (h:Lib.IsBuilder 211 5 B b (Lib.byteCells l) w) (hBw:B<=w.heap.size) :
    Calls Tryz.prog 156 #[.pointer (some ⟨b,0,none⟩)] w fun e w'=>e = .returned (.string ⟨l.toArray⟩)/\Below B w w':=Any.Builder_String_any Tryz.lays169 Tryz.Builder_Extra_169 B b l w h hBw
def Tryz.laysM171_ren:Go.Shelf.Ren:=⟨fun | 171=>155 | 243=>166 | 246=>169 | 283=>170 | 284=>171 | 285=>172 | 286=>173 | 129=>139 | 317=>174 | 318=>175 | 319=>176 | 320=>177 | 337=>178 | 338=>179 | n=>n,fun | 3=>3 | 9=>9 | 2=>2 | 4=>4 | 171=>239 | 0=>0 | 53=>184 | 37=>22 | 5=>5 | 173=>241 | 212=>244 | 51=>182 | 20=>20 | 213=>245 | 46=>122 | 232=>246 | 233=>247 | n=>n,fun | 17=>2 | 18=>3 | 19=>4 | n=>n⟩
theorem Tryz.laysM171:Go.Proofs.LaysM.n171 Tryz.prog Tryz.laysM171_ren:={
  mixed:=by kernel_rfl
  f129:=Tryz.func139.trans (congrArg some (by kernel_rfl))
  f171:=Tryz.func155.trans (congrArg some (by kernel_rfl))
  f243:=Tryz.func166.trans (congrArg some (by kernel_rfl))
  f246:=Tryz.func169.trans (congrArg some (by kernel_rfl))
  f283:=Tryz.func170.trans (congrArg some (by kernel_rfl))
  f284:=Tryz.func171.trans (congrArg some (by kernel_rfl))
  f285:=Tryz.func172.trans (congrArg some (by kernel_rfl))
  f286:=Tryz.func173.trans (congrArg some (by kernel_rfl))
  f317:=Tryz.func174.trans (congrArg some (by kernel_rfl))
  f318:=Tryz.func175.trans (congrArg some (by kernel_rfl))
  f319:=Tryz.func176.trans (congrArg some (by kernel_rfl))
  f320:=Tryz.func177.trans (congrArg some (by kernel_rfl))
  f337:=Tryz.func178.trans (congrArg some (by kernel_rfl))
  f338:=Tryz.func179.trans (congrArg some (by kernel_rfl))
  t0:=Tryz.underlying0
  a0:=Tryz.isAgg0
  z0:=Tryz.sizeOf0
  v0:=Tryz.zeroValue0
  t2:=Tryz.underlying2
  a2:=Tryz.isAgg2
  z2:=Tryz.sizeOf2
  v2:=Tryz.zeroValue2
  t3:=Tryz.underlying3
  a3:=Tryz.isAgg3
  z3:=Tryz.sizeOf3
  v3:=Tryz.zeroValue3
  t4:=Tryz.underlying4
  a4:=Tryz.isAgg4
  z4:=Tryz.sizeOf4
  v4:=Tryz.zeroValue4
  t5:=Tryz.underlying5
  a5:=Tryz.isAgg5
  z5:=Tryz.sizeOf5
  v5:=Tryz.zeroValue5
  t9:=Tryz.underlying9
  a9:=Tryz.isAgg9
  z9:=Tryz.sizeOf9
  v9:=Tryz.zeroValue9
  t20:=Tryz.underlying20
  a20:=Tryz.isAgg20
  z20:=Tryz.sizeOf20
  v20:=Tryz.zeroValue20
  t37:=Tryz.underlying22
  a37:=Tryz.isAgg22
  z37:=Tryz.sizeOf22
  v37:=Tryz.zeroValue22
  t46:=Tryz.underlying122
  a46:=Tryz.isAgg122
  z46:=Tryz.sizeOf122
  v46:=Tryz.zeroValue122
  t51:=Tryz.underlying182
  a51:=Tryz.isAgg182
  z51:=Tryz.sizeOf182
  v51:=Tryz.zeroValue182
  t53:=Tryz.underlying184
  a53:=Tryz.isAgg184
  z53:=Tryz.sizeOf184
  v53:=Tryz.zeroValue184
  t171:=Tryz.underlying239
  a171:=Tryz.isAgg239
  z171:=Tryz.sizeOf239
  v171:=Tryz.zeroValue239
  t173:=Tryz.underlying241
  a173:=Tryz.isAgg241
  z173:=Tryz.sizeOf241
  v173:=Tryz.zeroValue241
  t212:=Tryz.underlying244
  a212:=Tryz.isAgg244
  z212:=Tryz.sizeOf244
  v212:=Tryz.zeroValue244
  t213:=Tryz.underlying245
  a213:=Tryz.isAgg245
  z213:=Tryz.sizeOf245
  t232:=Tryz.underlying246
  a232:=Tryz.isAgg246
  z232:=Tryz.sizeOf246
  v232:=Tryz.zeroValue246
  t233:=Tryz.underlying247
  a233:=Tryz.isAgg247
  z233:=Tryz.sizeOf247
  v233:=Tryz.zeroValue247
  g17:=by kernel_rfl
  g18:=by kernel_rfl
  g19:=by kernel_rfl
  i0:=by kernel_rfl
  i2:=by kernel_rfl
  i3:=by kernel_rfl
  i4:=by kernel_rfl
  i5:=by kernel_rfl
  i9:=by kernel_rfl
  i20:=by kernel_rfl
  i37:=by kernel_rfl
  i46:=by kernel_rfl
  i51:=by kernel_rfl
  i53:=by kernel_rfl
  i171:=by kernel_rfl
  i173:=by kernel_rfl
  i212:=by kernel_rfl
  i232:=by kernel_rfl
  i233:=by kernel_rfl
  m17:=by kernel_rfl
  m18:=by kernel_rfl
  m19:=by kernel_rfl }
open Go.RowKit Go.Sort Go.Lib in
theorem Tryz.strconv_Itoa (n:Int) (h0 : -9223372036854775808<=n) (h1:n<=9223372036854775807) (w:World) (htab:Lib.TabIs Tryz.prog w "internal/strconv.uint64pow10" .u64 Lib.pow10Tab) :
    Calls Tryz.prog 155 #[.int .i64 n] w fun e w'=>e = .returned (.string ⟨(Lib.itoa n).toArray⟩)/\∃ k os,w'=grow (w.drewN k) os:=Any.strconv_Itoa Tryz.laysM171 n h0 h1 w htab
end Go.Proofs
namespace Go.Proofs.YtmjaepdplbgohaaGreatDoor
open Go.RowKit
theorem bldSize:(Tryz.prog.info? 211).map (·.size)=some 2:=by kernel_rfl
theorem bldLies:liesAt Tryz.prog Tryz.prog.depth 211 (2 / Tryz.prog.cellsOf 211) 0 211 1=true:=by kernel_rfl
theorem byteInfo:(Tryz.prog.info? 5).map (fun i=>(i.zero,i.size,i.bytes))=some (some (.int .u8 0),1,1):=by kernel_rfl
theorem v5U (b:Nat) (w:World) (h0:w.cell? ⟨b,0,none⟩=some (.pointer (some ⟨b,0,none⟩))) :
  Calls Tryz.prog 165 #[.pointer (some ⟨b,0,none⟩)] w fun e w'=>e = .returned (.tuple #[])/\w'=w:=by
 obtain ⟨j,hj,-⟩:=Option.map_eq_some_iff.1 bldSize;have hsame:=Lib.run_neq_ptr_same w ⟨b,0,none⟩ Tryz.underlying209 hj;go_enter Tryz.func165,Tryz.ntmps165;go_wp2;go_end0;exact ⟨rfl,rfl⟩
theorem z5H (b:Nat) (w:World) (h0:w.cell? ⟨b,0,none⟩=some (.pointer none)) (hsh:w.shape? b=some (211,2)) (hfz:w.frozen? ⟨b,0,none⟩=false) :
  Calls Tryz.prog 165 #[.pointer (some ⟨b,0,none⟩)] w fun e w'=>e = .returned (.tuple #[])/\w'=w.setCell ⟨b,0,none⟩ (.pointer (some ⟨b,0,none⟩)):=by
 obtain ⟨j,hj,hjs⟩:=Option.map_eq_some_iff.1 bldSize;have h1:=Lib.run_to_unsafe w ⟨b,0,none⟩ Tryz.underlying209 Tryz.underlying236 hj (by rw [hjs]; decide) hsh (Nat.zero_lt_succ 1);have h2:(callFunc 168 #[.pointer (some ⟨b,0,none⟩)]).run Tryz.prog w = .ok (.value (.pointer (some ⟨b,0,none⟩))) w:=by
  rw [run_callFunc_extern Tryz.func168 (by kernel_rfl) (by kernel_rfl) (by kernel_rfl) (e:=Extern.AbiNoEscape.same) (by kernel_rfl),Lib.run_noEscape];rfl
 have h3:=Lib.run_from_unsafe w ⟨b,0,none⟩ Tryz.underlying236 Tryz.underlying209 hj hsh bldLies;clear hsh;go_enter Tryz.func165,Tryz.ntmps165;go_wp2;go_end0;exact ⟨rfl,rfl⟩
def v4C (w:World) (B b:Nat) (l:List UInt8):Prop:=Lib.IsBuilder 211 5 B b (Lib.byteCells l) w
theorem x4U (B b:Nat) (bs:List Value) (w:World) (h:Lib.IsBuilder 211 5 B b bs w) :
  Calls Tryz.prog 165 #[.pointer (some ⟨b,0,none⟩)] w fun e w'=>e = .returned (.tuple #[])/\Lib.BuilderAt 211 5 B b (.pointer (some ⟨b,0,none⟩)) bs w'/\Below B w w':=by
 rcases h with h | h
 ·
  refine (z5H b w h.cell0 h.shape h.frozen0).mono fun e w' ⟨he,hw⟩=> ?_;subst hw;exact ⟨he,h.used _,(Below.refl B w).setCell (p:=⟨b,0,none⟩) h.1 _⟩
 ·
  refine (v5U b w h.cell0).mono fun e w' ⟨he,hw⟩=> ?_;subst hw;exact ⟨he,h,Below.refl B _⟩
theorem x6E {B b:Nat} {v v':Value} {bs':List Value} {w1 w2:World} {row:Option Nat} (hB:B<=b) (hbk:w1.heap[b]? = some (.cells #[.pointer (some ⟨b,0,none⟩),v] 211 (0,0)))
  (hgrow:w1.grownBy w2 row) (hne:row≠some b) (hown':w2.ownsRow B 5 1 v' bs'.length bs') :
  w2.cell? ⟨b,1,none⟩=some v/\w2.frozen? ⟨b,1,none⟩=false/\Lib.BuilderAt 211 5 B b (.pointer (some ⟨b,0,none⟩)) bs' (w2.setCell ⟨b,1,none⟩ v'):=by
 have hlt:b<w1.heap.size:=(Array.getElem?_eq_some_iff.1 hbk).1;have hb2:w2.heap[b]? = some (.cells #[.pointer (some ⟨b,0,none⟩),v] 211 (0,0)):=(hgrow.block b hlt (fun e=>hne e.symm)).trans hbk;exact ⟨by rw [Lib.cell_of_heap hb2]; rfl,Lib.frozen_of_heap hb2 1,Lib.BuilderAt.put hB hb2 hown' (by decide)⟩
theorem q5I {w:World} {B n:Nat} {e:TypeId} {v:Value} {xs:List Value} (h:w.ownsRow B e 1 v n xs):∃ a c,v = .slice a n c:=by
 rcases h.2 with ⟨hv,h0⟩ | ⟨g,cap,cur,hv,_⟩
 ·
  exact ⟨none,0,by rw [hv,h0]⟩
 ·
  exact ⟨_,_,hv⟩
theorem k3S (B b:Nat) (bs:List Value) (c:Int) (w:World) (h:Lib.IsBuilder 211 5 B b bs w) (hlen:bs.length+1<=140737488355328) (hBw:B<=w.heap.size) :
  Calls Tryz.prog 153 #[.pointer (some ⟨b,0,none⟩),.int .u8 c] w fun e w'=>e = .returned .nilIface/\Lib.IsBuilder 211 5 B b (bs++[.int .u8 c]) w'/\Below B w w':=by
 obtain ⟨i0,hi,hz0,hz1,hz2⟩:=info_parts byteInfo;go_enter Tryz.func153,Tryz.ntmps153;go_wp2_with fail;refine (x4U B b bs _ h).mono ?_;rintro e w1 ⟨rfl,⟨hB,v,hbk,hown,hne⟩,hb1⟩;have c1:w1.cell? ⟨b,1,none⟩=some v:=by rw [Lib.cell_of_heap hbk]; rfl
 have hs1:=hb1.size;have HB:Hid (w1.heap[b]? = some (.cells #[.pointer (some ⟨b,0,none⟩),v] 211 (0,0))):=hbk;clear hbk h;go_wp2_with (at_builtin; refine wpList_append_own _ rfl (.tmp 11) (.tmp 13) 22 rfl B 5 i0 (.int .u8 0) 1 1 Tryz.underlying22 hi hz0 hz1 hz2 rfl (by decide) v _ _ rfl (hown.alloc (.cells #[.int .u8 c] 5)) ⟨w1.heap.size,0,none⟩ 1 1 [.int .u8 c] rfl rfl (fun j u hj=>by match j,hj with | 0,hj=>simp at hj; subst hj; simp [Addr.add]) (fun u hu=>by simp at hu; subst hu; rfl) (by unfold maxLen; omega) (by omega) (by simp; omega) ?_; intro v' w2 hown' hgrow _; obtain ⟨d1,f1,hput⟩:=x6E (bs':=bs++[.int .u8 c]) hB ((Lib.alloc_old w1 (.cells #[.int .u8 c] 5) b (Array.getElem?_eq_some_iff.1 HB.out).1).trans HB.out) hgrow hne (by simpa using hown'); obtain ⟨a',c',hv'⟩:=q5I hown'; subst hv'; have hbel:Below B w w2:=(hb1.alloc (by omega) _).grown hgrow (by simp; omega) (fun k hk=>(hown.lt k hk).1); clear hown' hgrow);go_ret;exact ⟨rfl,.inr hput,hbel.setCell (p:=⟨b,1,none⟩) hB _⟩
theorem j2W (B b:Nat) (bs:List Value) (s:ByteArray) (w:World) (h:Lib.IsBuilder 211 5 B b bs w) (hlen:bs.length+s.size<=140737488355328) (hBw:B<=w.heap.size) :
  Calls Tryz.prog 154 #[.pointer (some ⟨b,0,none⟩),.string s] w fun e w'=>e = .returned (.tuple #[.int .i64 s.size,.nilIface])/\Lib.IsBuilder 211 5 B b (bs++Lib.strCells s) w'/\Below B w w':=by
 obtain ⟨i0,hi,hz0,hz1,hz2⟩:=info_parts byteInfo;go_enter Tryz.func154,Tryz.ntmps154;go_wp2_with fail;refine (x4U B b bs _ h).mono ?_;rintro e w1 ⟨rfl,⟨hB,v,hbk,hown,hne⟩,hb1⟩;have c1:w1.cell? ⟨b,1,none⟩=some v:=by rw [Lib.cell_of_heap hbk]; rfl
 have hs1:=hb1.size;have HB:Hid (w1.heap[b]? = some (.cells #[.pointer (some ⟨b,0,none⟩),v] 211 (0,0))):=hbk;clear hbk h;go_wp2_with (at_builtin; refine Lib.wpList_append_own_string _ rfl (.tmp 12) (.tmp 13) 22 9 rfl B 5 i0 Tryz.underlying22 Tryz.underlying9 hi hz0 hz1 hz2 v _ _ rfl hown s rfl (by unfold maxLen; omega) (by omega) (by omega) ?_; intro v' w2 hown' hgrow _; obtain ⟨d1,f1,hput⟩:=x6E (bs':=bs++Lib.strCells s) hB HB.out hgrow hne (by simpa [Lib.strCells_length] using hown'); obtain ⟨a',c',hv'⟩:=q5I hown'; subst hv'; have hbel:Below B w w2:=hb1.grown hgrow (by omega) (fun k hk=>(hown.lt k hk).1); clear hown' hgrow);go_ret2;exact ⟨rfl,.inr hput,hbel.setCell (p:=⟨b,1,none⟩) hB _⟩
theorem j4D (s:ByteArray):s.data.toList.length=s.size:=by rw [Array.length_toList]; rfl
def Tab (w:World):Prop:=Lib.TabIs Tryz.prog w "internal/strconv.uint64pow10" .u64 Lib.pow10Tab
theorem Tab.below {w w':World} (h:Tab w) (hb:Below w.heap.size w w'):Tab w':=Lib.tabBelow_of_tabIs h w' hb
theorem q5R (n:Int) (w:World) (h : -9223372036854775808<=n/\n<=9223372036854775807) (ht:Tab w) :
  Calls Tryz.prog 155 #[.int .i64 n] w fun e w'=> ∃ s:ByteArray,e = .returned (.string s)/\s.data.toList=Lib.itoa n/\Below w.heap.size w w':=by
 refine (Tryz.strconv_Itoa n h.1 h.2 w ht).mono fun e w' ⟨he,k,os,hw⟩=>⟨_,he,rfl,?_⟩;rw [hw];exact Lib.below_grow _ _ (Nat.le_refl _) _ _
theorem x4X {w w':World} {B b:Nat} {bs:List Value} (h:Lib.IsBuilder 211 5 B b bs w) (hb:Below w.heap.size w w'):Lib.IsBuilder 211 5 B b bs w':=by
 have one:∀ {p:Value},Lib.BuilderAt 211 5 B b p bs w->Lib.BuilderAt 211 5 B b p bs w':=by
  rintro p ⟨hB,v,hbk,hown,hne⟩;refine ⟨hB,v,(hb.block b (Array.getElem?_eq_some_iff.1 hbk).1).trans hbk,?_,hne⟩;exact hown.kept (row:=none) ⟨hb.os,hb.tape,hb.output,hb.size,fun k hk _=>hb.block k hk⟩ (by
   cases v.ownBlock with
   | none=>exact .inl rfl
   | some k=>exact .inr (by simp))
 rcases h with h | h
 ·
  exact .inl (one h)
 ·
  exact .inr (one h)
theorem q3G (b off cap:Nat) (xs:List Int) (w:World) (htab:Tab w) (hwf:q3D xs) (hpos:0<xs.length) (hlim:xs.length<=1048576) (hbw:b<w.heap.size)
  (hc:∀ j,j<xs.length->w.cell? ⟨b,off+j,none⟩=some (.int .i64 (xs.getD j 0))) :
  Calls Tryz.prog 129 #[.slice (some ⟨b,off,none⟩) xs.length cap] w fun e w'=> ∃ s:ByteArray,e = .returned (.string s)/\s.data.toList=rowTx xs/\Below w.heap.size w w':=by
 obtain ⟨n,hn⟩:∃ n,n=xs.length:=⟨_,rfl⟩;have HN:Hid (n=xs.length):=hn;rw [<-hn] at hpos hlim hc ⊢;clear hn;have hfr:=Lib.fresh_isBuilder 211 5 w;go_enter Tryz.func129,Tryz.ntmps129;go_wp2;go_loopw [8] (fun i wr=> ∃ (k:Nat),k<=n/\i = .int .i64 k/\v4C wr w.heap.size w.heap.size (rowTx (xs.take k))/\Below w.heap.size w wr)
  (fun i _=>n - (intOf i).toNat)
 case atStart=>exact ⟨0,Nat.zero_le _,rfl,by simpa [v4C,rowTx,Lib.byteCells] using hfr,(Below.refl _ _).alloc (Nat.le_refl _) _⟩
 case round=>
  obtain ⟨k,hk,rfl,hbl,hb⟩:=hrel;clear hfr;have hws:=hb.size;by_cases hlt:k<n
  ·
   have hx:wr.cell? ⟨b,off+k,none⟩=some (.int .i64 (xs.getD k 0)):=(hb.cell (p:=⟨b,off+k,none⟩) hbw).trans (hc k hlt);have hkx:k<xs.length:=by rw [<-HN.out]; exact hlt
   have hlen:=q5D _ (wf_take hwf k);have HW:Hid (-9223372036854775808<=xs.getD k 0/\xs.getD k 0<=9223372036854775807):=wf_at hwf hkx;have HL:Hid ((rowTx (xs.take k)).length<=22*k):=by
    have:(xs.take k).length<=k:=List.length_take_le _ _;show _<=_;omega
   obtain ⟨x,HX⟩:∃ x,Hid (x=xs.getD k 0):=⟨_,rfl⟩;rw [<-HX.out] at hx HW;clear hlen hc;by_cases hk0:0<k
   ·
    have hkk:(0:Int)<(k:Int):=by omega
    have HR:Hid (rowTx (xs.take (k+1))=rowTx (xs.take k)++44 :: Lib.itoa x):=by rw [HX.out]; exact x5L hkx hk0
    go_wp2_with fail;refine (k3S _ _ _ _ _ hbl (by have:=HL.out; simp [Lib.byteCells]; omega) hws).mono ?_;rintro e w1 ⟨rfl,hbl1,hb1⟩;have ht1:=htab.below (hb.trans hb1);have hk1:Below w.heap.size w w1:=hb.trans hb1;clear hbl hb hb1 hx;go_wp2_with fail;refine (q5R _ _ HW.out ht1).mono ?_;rintro e w2 ⟨t,rfl,ht,hb2⟩;have hbl2:=x4X hbl1 hb2;have hk2:Below w.heap.size w w2:=hk1.trans (hb2.mono hk1.size);have htz:t.size<=21:=by
     rw [<-j4D,ht]; exact Lib.itoa_length_le _ HW.out.1 HW.out.2
    have HT:Hid (t.data.toList=Lib.itoa x):=ht;have hs2:=hk2.size;clear hbl1 ht1 hk1 hb2 ht;go_wp2_with fail;refine (j2W _ _ _ _ _ hbl2 (by have:=HL.out; simp [Lib.byteCells]; omega) hs2).mono ?_;rintro e w3 ⟨rfl,hbl3,hb3⟩;have hbl4:v4C w3 w.heap.size w.heap.size (rowTx (xs.take (k+1))):=by
     have h1:Lib.byteCells (rowTx (xs.take (k+1)))=Lib.byteCells (rowTx (xs.take k))++[.int .u8 44]++Lib.strCells t:=by
      rw [HR.out,<-HT.out]; simp [Lib.byteCells,Lib.strCells]
     unfold v4C;rw [h1];exact hbl3
    have hk3:Below w.heap.size w w3:=hk2.trans hb3;clear hbl2 hbl3 hb3 hk2;go_wp2;go_roundw
    case rel=>exact ⟨k+1,by omega,by go_num,hbl4,hk3⟩
    case measure=>simp [intOf]; omega
   ·
    have HK:Hid (k=0):=by show k=0; omega
    have hkk:¬ (0:Int)<(k:Int):=by omega
    have HR:Hid (rowTx (xs.take (k+1))=Lib.itoa x):=by
     have h1:=v4Z (xs:=xs) (by omega);have h2:=HX.out;rw [HK.out] at h2 ⊢;rw [h2]; exact h1
    have ht1:=htab.below hb;have hbl0:Lib.IsBuilder 211 5 w.heap.size w.heap.size [] wr:=by
     have:=hbl;unfold v4C at this;rw [HK.out] at this;simpa [rowTx,Lib.byteCells] using this
    go_wp2_with fail;refine (q5R _ _ HW.out ht1).mono ?_;rintro e w2 ⟨t,rfl,ht,hb2⟩;have hbl2:=x4X hbl0 hb2;have hk2:Below w.heap.size w w2:=hb.trans (hb2.mono hb.size);have htz:t.size<=21:=by
     rw [<-j4D,ht]; exact Lib.itoa_length_le _ HW.out.1 HW.out.2
    have HT:Hid (t.data.toList=Lib.itoa x):=ht;have hs2:=hk2.size;clear hbl hbl0 ht1 hb hb2 ht;go_wp2_with fail;refine (j2W _ _ _ _ _ hbl2 (by simp; omega) hs2).mono ?_;rintro e w3 ⟨rfl,hbl3,hb3⟩;have hbl4:v4C w3 w.heap.size w.heap.size (rowTx (xs.take (k+1))):=by
     have h1:Lib.byteCells (rowTx (xs.take (k+1)))=[]++Lib.strCells t:=by
      rw [HR.out,<-HT.out]; simp [Lib.byteCells,Lib.strCells]
     unfold v4C;rw [h1];exact hbl3
    have hk3:Below w.heap.size w w3:=hk2.trans hb3;clear hbl2 hbl3 hb3 hk2;go_wp2;go_roundw
    case rel=>exact ⟨k+1,by omega,by go_num,hbl4,hk3⟩
    case measure=>simp [intOf]; omega
  ·
   have e:k=n:=by omega
   subst e;have hbl2:v4C wr w.heap.size w.heap.size (rowTx xs):=by
    have:=hbl;rw [HN.out,List.take_length] at this;exact this
   clear hc hbl;go_wp2_with fail;refine (Tryz.Builder_String_any _ _ _ _ hbl2 hws).mono ?_;rintro e w1 ⟨rfl,hb1⟩;have hk1:Below w.heap.size w w1:=hb.trans hb1;clear hbl2 hb hb1;go_wp2;go_ret;exact ⟨_,rfl,rfl,hk1⟩
theorem q3H (a:Option Addr) (cap:Nat) (w:World) :
  Calls Tryz.prog 129 #[.slice a 0 cap] w fun e w'=> ∃ s:ByteArray,e = .returned (.string s)/\s.data.toList=rowTx []/\Below w.heap.size w w':=by
 have hfr:=Lib.fresh_isBuilder 211 5 w;have hb:Below w.heap.size w (w.alloc (.cells #[.pointer none,.slice none 0 0] 211)):=(Below.refl _ _).alloc (Nat.le_refl _) _;go_enter Tryz.func129,Tryz.ntmps129;go_wp2;refine wp_loop_rounds 1 ?_;rw [rounds_succ];go_wp2_with fail;refine (Tryz.Builder_String_empty _ _ _ hfr (by simp)).mono ?_;rintro e w1 ⟨rfl,hb1⟩;have hk1:Below w.heap.size w w1:=hb.trans hb1;clear hfr hb hb1;go_wp2;go_ret;exact ⟨_,rfl,rfl,hk1⟩
theorem x3B (v:Value) (xs:List Int) (w:World) (htab:Tab w) (h:z1E w v xs) (hwf:q3D xs) (hlim:xs.length<=1048576) :
  Calls Tryz.prog 129 #[v] w fun e w'=> ∃ s:ByteArray,e = .returned (.string s)/\s.data.toList=rowTx xs/\Below w.heap.size w w':=by
 rcases h.cases with ⟨a,cap,rfl,rfl⟩ | ⟨b,off,cap,hpos,_,rfl,hbw,hc⟩
 ·
  exact q3H a cap w
 ·
  exact q3G b off cap xs w htab hwf hpos hlim hbw hc
theorem z6X {ks r:List Int} (hk:∀ k∈ks,0<=k/\k<(r.length:Int)) (h0:0<ks.length):0<r.length:=by
 have:=hk _ (q2V h0);omega
theorem q3T (w:World) (n:Int):z1E (w.alloc (.cells #[.int .i64 n] 3)) (.slice (some ⟨w.heap.size,0,none⟩) 1 1) [n]:=by
 refine ⟨by simp,_,_,rfl,by simp,fun _=>⟨_,_,rfl,by simp,fun j hj=> ?_⟩⟩;have:j=0:=by simp at hj; omega
 subst this;simp [go_sem]
theorem x3N (v u:Value) (r ks:List Int) (w:World) (h:z1E w v r) (h2:z1E w u ks) (hk:∀ k∈ks,0<=k/\k<(r.length:Int)) (hl:ks.length<=6) :
  Calls Tryz.prog 40 #[v,u] w fun e w'=> ∃ v',e = .returned v'/\Own w' w.heap.size w'.heap.size v' (x1S r ks)/\Below w.heap.size w w':=by
 obtain ⟨i0,hi,hz0,hz1,hz2⟩:=info_parts infoInt;rcases h2.cases with ⟨a,cap,rfl,rfl⟩ | ⟨b2,off2,cap2,hpos2,hlim2,rfl,hbw2,hc2⟩
 ·
  obtain ⟨va,vn',vc,rfl⟩:=h.shape;clear h h2 hk hl;go_enter Tryz.func40,Tryz.ntmps40;go_wp2_with (at_make; refine wpList_make_own _ rfl _ _ 28 rfl w.heap.size 3 i0 (.int .i64 0) 1 Tryz.underlying28 hi hz0 hz1 _ _ _ 1 rfl rfl (by omega) (by rw [hz2]; omega) (by unfold maxLen; omega) (Nat.le_refl _) ?_; intro w1 hown1 hgrow1);have hb1:Below w.heap.size w w1:=(Below.refl _ _).grown hgrow1 (Nat.le_refl _) (by simp);have HO1:Hid (Own w1 w.heap.size w1.heap.size (.slice (some ⟨w.heap.size,0,none⟩) 0 1) []):=x1Y (xs:=[]) (by simpa using hown1) (by simp);clear hown1 hgrow1;go_wp2;refine wp_loop_rounds 1 ?_;rw [rounds_succ];go_wp2;go_ret;exact ⟨_,rfl,HO1.out,hb1⟩
 ·
  have hr0:=z6X hk hpos2;rcases h.cases with ⟨a,cap,rfl,rfl⟩ | ⟨b,off,cap,hpos,hlim,rfl,hbw,hc⟩
  ·
   simp at hr0
  ·
   clear h h2 hlim2;obtain ⟨n,hn⟩:∃ n,n=ks.length:=⟨_,rfl⟩;have HN:Hid (n=ks.length):=hn;obtain ⟨m,hm⟩:∃ m,m=r.length:=⟨_,rfl⟩;rw [<-hn] at hl hpos2 hc2 ⊢;rw [<-hm] at hk hc hpos hlim hr0 ⊢;clear hn hm;go_enter Tryz.func40,Tryz.ntmps40;go_wp2_with (at_make; refine wpList_make_own _ rfl _ _ 28 rfl w.heap.size 3 i0 (.int .i64 0) 1 Tryz.underlying28 hi hz0 hz1 _ _ _ (n+1) rfl rfl (by omega) (by rw [hz2]; omega) (by unfold maxLen; omega) (Nat.le_refl _) ?_; intro w1 hown1 hgrow1);have hb1:Below w.heap.size w w1:=(Below.refl _ _).grown hgrow1 (Nat.le_refl _) (by simp);have HO1:Hid (Own w1 w.heap.size w1.heap.size (.slice (some ⟨w.heap.size,0,none⟩) 0 (n+1)) (x1S r (ks.take 0))):=x1Y (xs:=[]) (by simpa using hown1) (by simp);have HB1:Hid (Below w.heap.size w w1):=hb1;clear hown1 hgrow1 hb1;go_wp2;go_loopw [5,14] (fun s i wr=> ∃ (k:Nat),k<=n/\i = .int .i64 k/\Hid (Own wr w.heap.size wr.heap.size s (x1S r (ks.take k)))/\Hid (Below w.heap.size w wr)) (fun _ i _=>n - (intOf i).toNat)
   case atStart=>exact ⟨0,Nat.zero_le _,rfl,HO1.out,HB1.out⟩
   case round=>
    obtain ⟨k,hkn,rfl,HO,HW⟩:=hrel;clear HO1 HB1;by_cases hlt:k<n
    ·
     have hk':k<ks.length:=by rw [<-HN.out]; exact hlt
     have hbq:=HW.out;have hkey:=hk _ (q2V hk');have HT:Hid (x1S r (ks.take (k+1))=x1S r (ks.take k)++[r.getD (ks.getD k 0).toNat 0]):=x4F hk';have c2:=(hbq.cell (p:=⟨b2,off2+k,none⟩) hbw2).trans (hc2 k hlt);have hrl:(x1S r (ks.take k)).length<=6:=by rw [k1M,List.length_take]; omega
     obtain ⟨kk,HKK⟩:∃ kk,Hid (kk=ks.getD k 0):=⟨_,rfl⟩;rw [<-HKK.out] at hkey c2 HT;obtain ⟨kn,rfl⟩:=Int.eq_ofNat_of_zero_le hkey.1;have hknm:kn<m:=by omega
     have c1:=(hbq.cell (p:=⟨b,off+kn,none⟩) hbw).trans (hc kn hknm);simp only [Int.toNat_natCast] at HT;obtain ⟨z,HZ⟩:∃ z,Hid (z=r.getD kn 0):=⟨_,rfl⟩;rw [<-HZ.out] at c1 HT;have hal:Below wr.heap.size wr (wr.alloc (.cells #[.int .i64 z] 3)):=z1C _;have hO3:=HO.out.keep' hal;have hsz2:w.heap.size<=wr.heap.size:=hbq.size;have HKB:Hid (Below w.heap.size w (wr.alloc (.cells #[.int .i64 z] 3))):=hbq.trans (hal.mono hsz2);clear hc hc2 HO HW hbq hk;go_wp2_with (at_builtin; refine z1Q rfl _ _ 28 rfl w.heap.size 3 i0 Tryz.underlying28 hi hz0 hz1 hz2 u5 _ _ rfl hO3.1 _ [z] rfl (q3T wr z) (by simp; omega) (by simp; omega) ?_; intro v3 w3 hown3 hg3 _);have O3:Own w3 w.heap.size w3.heap.size v3 (x1S r (ks.take k)++[z]):=x1Y (xs:=x1S r (ks.take k)++[z]) (by simpa using hown3) (by simp; omega);have HO3:Hid (Own w3 w.heap.size w3.heap.size v3 (x1S r (ks.take (k+1)))):=by rw [Hid,HT.out]; exact O3
     have HK3:Hid (Below w.heap.size w w3):=HKB.out.grown hg3 HKB.out.size (fun i hi'=>(hO3.1.lt i hi').1);clear hown3 hg3 O3 hO3 hal HKB;go_wp2;go_roundw
     case rel=>exact ⟨k+1,by omega,by go_num,HO3.out,HK3.out⟩
     case measure=>simp [intOf]; omega
    ·
     obtain rfl:k=n:=by omega
     have hO:=HO.out;rw [HN.out,List.take_length] at hO;clear hc hc2 hk;go_wp2;go_ret;exact ⟨_,rfl,hO,HW.out⟩
theorem j4Y (v u:Value) (r ks:List Int) (w:World) (h:z1E w v r) (h2:z1E w u ks) (hk:∀ k∈ks,0<=k/\k<(r.length:Int)) (hl:ks.length<=6) :
  Calls Tryz.prog 115 #[v,u] w fun e w'=> ∃ v',e = .returned v'/\Own w' w.heap.size w'.heap.size v' (x1S r ks)/\Below w.heap.size w w':=by
 obtain ⟨i0,hi,hz0,hz1,hz2⟩:=info_parts infoInt;have HO1:Hid (Own (w.alloc (.cells #[] 3)) w.heap.size (w.alloc (.cells #[] 3)).heap.size (.slice (some ⟨w.heap.size,0,none⟩) 0 0) []):=x1Y (n:=0) (xs:=[]) (World.ownsRow_lit w #[] 0 (Nat.le_refl _) (by unfold maxLen; omega) rfl) (by simp);have HB1:Hid (Below w.heap.size w (w.alloc (.cells #[] 3))):=z1C _;rcases h2.cases with ⟨a,cap,rfl,rfl⟩ | ⟨b2,off2,cap2,hpos2,hlim2,rfl,hbw2,hc2⟩
 ·
  obtain ⟨va,vn',vc,rfl⟩:=h.shape;clear h h2 hk hl;go_enter Tryz.func115,Tryz.ntmps115;go_wp2;refine wp_loop_rounds 1 ?_;rw [rounds_succ];go_wp2;go_ret;exact ⟨_,rfl,HO1.out,HB1.out⟩
 ·
  have hr0:=z6X hk hpos2;rcases h.cases with ⟨a,cap,rfl,rfl⟩ | ⟨b,off,cap,hpos,hlim,rfl,hbw,hc⟩
  ·
   simp at hr0
  ·
   clear h h2 hlim2;obtain ⟨n,hn⟩:∃ n,n=ks.length:=⟨_,rfl⟩;have HN:Hid (n=ks.length):=hn;obtain ⟨m,hm⟩:∃ m,m=r.length:=⟨_,rfl⟩;rw [<-hn] at hl hpos2 hc2 ⊢;rw [<-hm] at hk hc hpos hlim hr0 ⊢;clear hn hm;go_enter Tryz.func115,Tryz.ntmps115;go_wp2;go_loopw [5,6] (fun s i wr=> ∃ (k:Nat),k<=n/\i = .int .i64 k/\Hid (Own wr w.heap.size wr.heap.size s (x1S r (ks.take k)))/\Hid (Below w.heap.size w wr)) (fun _ i _=>n - (intOf i).toNat)
   case atStart=>exact ⟨0,Nat.zero_le _,rfl,HO1.out,HB1.out⟩
   case round=>
    obtain ⟨k,hkn,rfl,HO,HW⟩:=hrel;clear HO1 HB1;by_cases hlt:k<n
    ·
     have hk':k<ks.length:=by rw [<-HN.out]; exact hlt
     have hbq:=HW.out;have hkey:=hk _ (q2V hk');have HT:Hid (x1S r (ks.take (k+1))=x1S r (ks.take k)++[r.getD (ks.getD k 0).toNat 0]):=x4F hk';have c2:=(hbq.cell (p:=⟨b2,off2+k,none⟩) hbw2).trans (hc2 k hlt);have hrl:(x1S r (ks.take k)).length<=6:=by rw [k1M,List.length_take]; omega
     obtain ⟨kk,HKK⟩:∃ kk,Hid (kk=ks.getD k 0):=⟨_,rfl⟩;rw [<-HKK.out] at hkey c2 HT;obtain ⟨kn,rfl⟩:=Int.eq_ofNat_of_zero_le hkey.1;have hknm:kn<m:=by omega
     have c1:=(hbq.cell (p:=⟨b,off+kn,none⟩) hbw).trans (hc kn hknm);simp only [Int.toNat_natCast] at HT;obtain ⟨z,HZ⟩:∃ z,Hid (z=r.getD kn 0):=⟨_,rfl⟩;rw [<-HZ.out] at c1 HT;have hal:Below wr.heap.size wr (wr.alloc (.cells #[.int .i64 z] 3)):=z1C _;have hO3:=HO.out.keep' hal;have hsz2:w.heap.size<=wr.heap.size:=hbq.size;have HKB:Hid (Below w.heap.size w (wr.alloc (.cells #[.int .i64 z] 3))):=hbq.trans (hal.mono hsz2);clear hc hc2 HO HW hbq hk;go_wp2_with (at_builtin; refine z1Q rfl _ _ 28 rfl w.heap.size 3 i0 Tryz.underlying28 hi hz0 hz1 hz2 u5 _ _ rfl hO3.1 _ [z] rfl (q3T wr z) (by simp; omega) (by simp; omega) ?_; intro v3 w3 hown3 hg3 _);have O3:Own w3 w.heap.size w3.heap.size v3 (x1S r (ks.take k)++[z]):=x1Y (xs:=x1S r (ks.take k)++[z]) (by simpa using hown3) (by simp; omega);have HO3:Hid (Own w3 w.heap.size w3.heap.size v3 (x1S r (ks.take (k+1)))):=by rw [Hid,HT.out]; exact O3
     have HK3:Hid (Below w.heap.size w w3):=HKB.out.grown hg3 HKB.out.size (fun i hi'=>(hO3.1.lt i hi').1);clear hown3 hg3 O3 hO3 hal HKB;go_wp2;go_roundw
     case rel=>exact ⟨k+1,by omega,by go_num,HO3.out,HK3.out⟩
     case measure=>simp [intOf]; omega
    ·
     obtain rfl:k=n:=by omega
     have hO:=HO.out;rw [HN.out,List.take_length] at hO;clear hc hc2 hk;go_wp2;go_ret;exact ⟨_,rfl,hO,HW.out⟩
theorem q4B (v u:Value) (r ks:List Int) (w:World) (htab:Tab w) (h:z1E w v r) (h2:z1E w u ks) (hk:∀ k∈ks,0<=k/\k<(r.length:Int)) (hl:ks.length<=6) (hr:z1R r=true) :
  Calls Tryz.prog 83 #[v,u] w fun e w'=> ∃ s:ByteArray,e = .returned (.string s)/\s.data.toList=rowTx (x1S r ks)/\Below w.heap.size w w':=by
 have hwf:=j5A (q2S hr hk);have hlen:(x1S r ks).length<=1048576:=by rw [k1M]; omega
 go_enter Tryz.func83,Tryz.ntmps83;go_wp2_with fail;refine (x3N v u r ks _ h h2 hk hl).mono ?_;rintro e w1 ⟨v1,rfl,O1,hb1⟩;clear h h2 hk hr;go_wp2_with fail;refine (x3B v1 (x1S r ks) _ (htab.below hb1) O1.ints hwf hlen).mono ?_;rintro e w2 ⟨s,rfl,hs,hb2⟩;have HK:Hid (Below w.heap.size w w2):=z1D hb1 hb2;have HS:Hid (s.data.toList=rowTx (x1S r ks)):=hs;clear O1 hb1 hb2 hs hwf htab;go_wp2;go_ret;exact ⟨s,rfl,HS.out,HK.out⟩
end Go.Proofs.YtmjaepdplbgohaaGreatDoor
namespace Go.Proofs.YtmjaepdplbgohaaGreatDoor
open Go.RowKit Go.Maps
attribute [local go_sem ↓] Go.wp_at_zero Go.wp_at_succ
def v3L (v:Value):Option (DataW Value × List MemPlace):=some (.held v,[])
theorem isMapT {w:World} {mb n:Nat} {D:DataW Value} (h:w.ownsMap Tryz.prog 9 v3L mb n D):IsMap D:=by
 obtain ⟨es,_,_,_,_,hD⟩:=h;exact ⟨_,hD⟩
theorem tx_small {r ks:List Int} (hr:z1R r=true) (hk:∀ k∈ks,0<=k/\k<(r.length:Int)) (hl:ks.length<=6) {s:ByteArray} (hs:s.data.toList=rowTx (x1S r ks)):s.size<=maxLen:=by
 have h1:=q5D _ (j5A (q2S hr hk));rw [k1M] at h1;have h2:s.size=s.data.toList.length:=by rw [Array.length_toList]; rfl
 rw [h2,hs];unfold maxLen;omega
end Go.Proofs.YtmjaepdplbgohaaGreatDoor
namespace Go.Proofs.YtmjaepdplbgohaaGreatDoor
open Go.RowKit
attribute [local go_sem ↓] Go.wp_at_zero Go.wp_at_succ
def x3E (z:List It) (ks key:List Int):List It:=z.filter fun p=>decide (0<p.2)&&decide (x1S p.1 ks=key)
theorem grp_take {z:List It} {ks key:List Int} {k:Nat} (hk:k<z.length):x3E (z.take (k+1)) ks key=x3E (z.take k) ks key++(if decide (0<(z.getD k ([],0)).2)&&decide (x1S (z.getD k ([],0)).1 ks=key) then [((z.getD k ([],0)).1,(z.getD k ([],0)).2)] else []):=by
 unfold x3E;have e:z.getD k ([],0)=z[k]:=by simp [List.getD,hk]
 rw [List.take_succ_eq_append_getElem hk,List.filter_append,e,List.filter_cons,List.filter_nil]
theorem q5V (z:List It) (ks key:List Int):(x3E z ks key).length<=z.length:=List.length_filter_le _ _
theorem l5Agg_0 (u:Value) (g:List It) (col:Nat) (w:World) (h:z1I w u g) (hf:q3Y g col) (hpos:0<g.length) :
  Calls Tryz.prog 116 #[u,.int .i64 0,.int .i64 col] w fun e w'=>e = .returned (.int .i64 (cntG g))/\w'=w:=by
 rcases h.cases with ⟨a,cap,rfl,rfl⟩ | ⟨b,off,cap,_,hlim,rfl,hbw,hc⟩
 ·
  simp at hpos
 ·
  clear h;obtain ⟨n,hn⟩:∃ n,n=g.length:=⟨_,rfl⟩;have HN:Hid (n=g.length):=hn;have hn100:n<=100:=by rw [hn]; exact hf.1
  rw [<-hn] at hpos hlim hc ⊢;have HF:Hid (q3Y g col):=hf;clear hn hf;go_enter Tryz.func116,Tryz.ntmps116;go_wp2;go_loopw [7,8] (fun s i wr=> ∃ k:Nat,k<=n/\i = .int .i64 k/\s = .int .i64 (cntG (g.take k))/\wr=w) (fun _ i _=>n - (intOf i).toNat)
  case atStart=>exact ⟨0,Nat.zero_le _,rfl,by simp [cntG],rfl⟩
  case round=>
   obtain ⟨k,hk,rfl,rfl,rfl⟩:=hrel;by_cases hlt:k<n
   ·
    have hlt':k<g.length:=by rw [<-HN.out]; exact hlt
    obtain ⟨rv,hrv,hwt,hix⟩:=hc k hlt;obtain ⟨b1,o1,cp1,rfl,hb1,hx⟩:=q2I hix (HF.out.at hlt').2.1;have hfk:=HF.out.at hlt';have HS:Hid (cntG (g.take (k+1))=cntG (g.take k)+(g.getD k ([],0)).2):=q4J hlt';have hin:=j6U HF.out k (by omega);obtain ⟨m,HM⟩:∃ m,Hid (m=(g.getD k ([],0)).1.length):=⟨_,rfl⟩;obtain ⟨y,HY⟩:∃ y,Hid (y=(g.getD k ([],0)).2):=⟨_,rfl⟩;obtain ⟨z,HZ⟩:∃ z,Hid (z=(g.getD k ([],0)).1.getD col 0):=⟨_,rfl⟩;obtain ⟨s0,HS0⟩:∃ s,Hid (s=cntG (g.take k)):=⟨_,rfl⟩;rw [<-HM.out] at hrv hfk;rw [<-HY.out] at hwt hfk HS;rw [<-HZ.out] at hx hfk;rw [<-HS0.out] at HS hin ⊢;have hcl:col<m:=hfk.2.1;clear hix hc;have hwrap:IntKind.i64.wrap (s0+y)=s0+y:=by rw [IntKind.wrap_i64]; omega
    go_wp2;go_roundw
    case rel=>exact ⟨k+1,by omega,by go_num,by rw [HS.out],by first | rfl | trivial⟩
    case measure=>simp [intOf]; omega
   ·
    obtain rfl:k=n:=by omega
    have HE:Hid (cntG (g.take k)=cntG g):=by
     show _=_;rw [HN.out,List.take_length]
    obtain ⟨s0,HS0⟩:∃ s,Hid (s=cntG (g.take k)):=⟨_,rfl⟩;rw [<-HS0.out] at HE ⊢;clear hc;go_wp2;go_ret;exact ⟨reti HE.out,rfl⟩
theorem l5Agg_1 (u:Value) (g:List It) (col:Nat) (w:World) (h:z1I w u g) (hf:q3Y g col) (hpos:0<g.length) :
  Calls Tryz.prog 116 #[u,.int .i64 1,.int .i64 col] w fun e w'=>e = .returned (.int .i64 (v2F col g))/\w'=w:=by
 rcases h.cases with ⟨a,cap,rfl,rfl⟩ | ⟨b,off,cap,_,hlim,rfl,hbw,hc⟩
 ·
  simp at hpos
 ·
  clear h;obtain ⟨n,hn⟩:∃ n,n=g.length:=⟨_,rfl⟩;have HN:Hid (n=g.length):=hn;have hn100:n<=100:=by rw [hn]; exact hf.1
  rw [<-hn] at hpos hlim hc ⊢;have HF:Hid (q3Y g col):=hf;clear hn hf;go_enter Tryz.func116,Tryz.ntmps116;go_wp2;go_loopw [7,8] (fun s i wr=> ∃ k:Nat,k<=n/\i = .int .i64 k/\s = .int .i64 (v2F col (g.take k))/\wr=w) (fun _ i _=>n - (intOf i).toNat)
  case atStart=>exact ⟨0,Nat.zero_le _,rfl,by simp [v2F],rfl⟩
  case round=>
   obtain ⟨k,hk,rfl,rfl,rfl⟩:=hrel;by_cases hlt:k<n
   ·
    have hlt':k<g.length:=by rw [<-HN.out]; exact hlt
    obtain ⟨rv,hrv,hwt,hix⟩:=hc k hlt;obtain ⟨b1,o1,cp1,rfl,hb1,hx⟩:=q2I hix (HF.out.at hlt').2.1;have hfk:=HF.out.at hlt';have HS:Hid (v2F col (g.take (k+1))=v2F col (g.take k)+(g.getD k ([],0)).2*(g.getD k ([],0)).1.getD col 0):=k3W hlt';have hin:=k5O HF.out k (by omega);obtain ⟨m,HM⟩:∃ m,Hid (m=(g.getD k ([],0)).1.length):=⟨_,rfl⟩;obtain ⟨y,HY⟩:∃ y,Hid (y=(g.getD k ([],0)).2):=⟨_,rfl⟩;obtain ⟨z,HZ⟩:∃ z,Hid (z=(g.getD k ([],0)).1.getD col 0):=⟨_,rfl⟩;obtain ⟨s0,HS0⟩:∃ s,Hid (s=v2F col (g.take k)):=⟨_,rfl⟩;rw [<-HM.out] at hrv hfk;rw [<-HY.out] at hwt hfk HS;rw [<-HZ.out] at hx hfk HS;rw [<-HS0.out] at HS hin ⊢;have hcl:col<m:=hfk.2.1;clear hix hc;have hml:=z3W (A:=10000) (B:=1000000000) hfk.1 hfk.2.2 (by omega) (by omega);have hwrap1:IntKind.i64.wrap (y*z)=y*z:=by rw [IntKind.wrap_i64]; omega
    have hwrap:IntKind.i64.wrap (s0+y*z)=s0+y*z:=by rw [IntKind.wrap_i64]; omega
    clear hml;go_wp2;go_roundw
    case rel=>exact ⟨k+1,by omega,by go_num,by rw [HS.out],by first | rfl | trivial⟩
    case measure=>simp [intOf]; omega
   ·
    obtain rfl:k=n:=by omega
    have HE:Hid (v2F col (g.take k)=v2F col g):=by
     show _=_;rw [HN.out,List.take_length]
    obtain ⟨s0,HS0⟩:∃ s,Hid (s=v2F col (g.take k)):=⟨_,rfl⟩;rw [<-HS0.out] at HE ⊢;clear hc;go_wp2;go_ret;exact ⟨reti HE.out,rfl⟩
theorem l5Agg_2 (u:Value) (g:List It) (col:Nat) (w:World) (h:z1I w u g) (hf:q3Y g col) (hpos:0<g.length) :
  Calls Tryz.prog 116 #[u,.int .i64 2,.int .i64 col] w fun e w'=>e = .returned (.int .i64 (x1D col g))/\w'=w:=by
 rcases h.cases with ⟨a,cap,rfl,rfl⟩ | ⟨b,off,cap,_,hlim,rfl,hbw,hc⟩
 ·
  simp at hpos
 ·
  clear h;obtain ⟨n,hn⟩:∃ n,n=g.length:=⟨_,rfl⟩;have HN:Hid (n=g.length):=hn;have hn100:n<=100:=by rw [hn]; exact hf.1
  rw [<-hn] at hpos hlim hc ⊢;have HF:Hid (q3Y g col):=hf;clear hn hf;go_enter Tryz.func116,Tryz.ntmps116;go_wp2;go_loopw [7,8] (fun s i wr=> ∃ k:Nat,k<=n/\i = .int .i64 k/\s = .int .i64 (x1D col (g.take k))/\wr=w) (fun _ i _=>n - (intOf i).toNat)
  case atStart=>exact ⟨0,Nat.zero_le _,rfl,by simp [x1D],rfl⟩
  case round=>
   obtain ⟨k,hk,rfl,rfl,rfl⟩:=hrel;by_cases hlt:k<n
   ·
    have hlt':k<g.length:=by rw [<-HN.out]; exact hlt
    obtain ⟨rv,hrv,hwt,hix⟩:=hc k hlt;obtain ⟨b1,o1,cp1,rfl,hb1,hx⟩:=q2I hix (HF.out.at hlt').2.1;have hfk:=HF.out.at hlt';have HS:Hid (0<k->x1D col (g.take (k+1))=min (x1D col (g.take k)) ((g.getD k ([],0)).1.getD col 0)):=fun h0=>v3Z hlt' h0;have HS1:Hid (k=0->x1D col (g.take (k+1))=(g.getD k ([],0)).1.getD col 0):=fun h0=>by subst h0; exact j3Q hlt'
    obtain ⟨m,HM⟩:∃ m,Hid (m=(g.getD k ([],0)).1.length):=⟨_,rfl⟩;obtain ⟨y,HY⟩:∃ y,Hid (y=(g.getD k ([],0)).2):=⟨_,rfl⟩;obtain ⟨z,HZ⟩:∃ z,Hid (z=(g.getD k ([],0)).1.getD col 0):=⟨_,rfl⟩;obtain ⟨s0,HS0⟩:∃ s,Hid (s=x1D col (g.take k)):=⟨_,rfl⟩;rw [<-HM.out] at hrv hfk;rw [<-HY.out] at hwt hfk;rw [<-HZ.out] at hx hfk HS HS1;rw [<-HS0.out] at HS ⊢;have hcl:col<m:=hfk.2.1;clear hix hc;by_cases hk0:k=0
    ·
     have HE:Hid _:=HS1.out hk0;have hkt:((k:Int)==0)=true:=by simp [hk0]
     clear hk0;go_wp2;go_roundw
     case rel=>exact ⟨k+1,by omega,by go_num,by rw [HE.out],by first | rfl | trivial⟩
     case measure=>simp [intOf]; omega
    ·
     have HE:Hid _:=HS.out (by omega);have hkf:((k:Int)==0)=false:=by simp; omega
     by_cases hv:z<s0
     ·
      have HE2:Hid (_=z):=HE.out.trans (Int.min_eq_right (by omega));go_wp2;go_roundw
      case rel=>exact ⟨k+1,by omega,by go_num,by rw [HE2.out],by first | rfl | trivial⟩
      case measure=>simp [intOf]; omega
     ·
      have HE2:Hid (_=s0):=HE.out.trans (Int.min_eq_left (by omega));go_wp2;go_roundw
      case rel=>exact ⟨k+1,by omega,by go_num,by rw [HE2.out],by first | rfl | trivial⟩
      case measure=>simp [intOf]; omega
   ·
    obtain rfl:k=n:=by omega
    have HE:Hid (x1D col (g.take k)=x1D col g):=by
     show _=_;rw [HN.out,List.take_length]
    obtain ⟨s0,HS0⟩:∃ s,Hid (s=x1D col (g.take k)):=⟨_,rfl⟩;rw [<-HS0.out] at HE ⊢;clear hc;go_wp2;go_ret;exact ⟨reti HE.out,rfl⟩
theorem l5Agg_3 (u:Value) (g:List It) (col:Nat) (w:World) (h:z1I w u g) (hf:q3Y g col) (hpos:0<g.length) :
  Calls Tryz.prog 116 #[u,.int .i64 3,.int .i64 col] w fun e w'=>e = .returned (.int .i64 (k1A col g))/\w'=w:=by
 rcases h.cases with ⟨a,cap,rfl,rfl⟩ | ⟨b,off,cap,_,hlim,rfl,hbw,hc⟩
 ·
  simp at hpos
 ·
  clear h;obtain ⟨n,hn⟩:∃ n,n=g.length:=⟨_,rfl⟩;have HN:Hid (n=g.length):=hn;have hn100:n<=100:=by rw [hn]; exact hf.1
  rw [<-hn] at hpos hlim hc ⊢;have HF:Hid (q3Y g col):=hf;clear hn hf;go_enter Tryz.func116,Tryz.ntmps116;go_wp2;go_loopw [7,8] (fun s i wr=> ∃ k:Nat,k<=n/\i = .int .i64 k/\s = .int .i64 (k1A col (g.take k))/\wr=w) (fun _ i _=>n - (intOf i).toNat)
  case atStart=>exact ⟨0,Nat.zero_le _,rfl,by simp [k1A],rfl⟩
  case round=>
   obtain ⟨k,hk,rfl,rfl,rfl⟩:=hrel;by_cases hlt:k<n
   ·
    have hlt':k<g.length:=by rw [<-HN.out]; exact hlt
    obtain ⟨rv,hrv,hwt,hix⟩:=hc k hlt;obtain ⟨b1,o1,cp1,rfl,hb1,hx⟩:=q2I hix (HF.out.at hlt').2.1;have hfk:=HF.out.at hlt';have HS:Hid (0<k->k1A col (g.take (k+1))=max (k1A col (g.take k)) ((g.getD k ([],0)).1.getD col 0)):=fun h0=>j4S hlt' h0;have HS1:Hid (k=0->k1A col (g.take (k+1))=(g.getD k ([],0)).1.getD col 0):=fun h0=>by subst h0; exact z4M hlt'
    obtain ⟨m,HM⟩:∃ m,Hid (m=(g.getD k ([],0)).1.length):=⟨_,rfl⟩;obtain ⟨y,HY⟩:∃ y,Hid (y=(g.getD k ([],0)).2):=⟨_,rfl⟩;obtain ⟨z,HZ⟩:∃ z,Hid (z=(g.getD k ([],0)).1.getD col 0):=⟨_,rfl⟩;obtain ⟨s0,HS0⟩:∃ s,Hid (s=k1A col (g.take k)):=⟨_,rfl⟩;rw [<-HM.out] at hrv hfk;rw [<-HY.out] at hwt hfk;rw [<-HZ.out] at hx hfk HS HS1;rw [<-HS0.out] at HS ⊢;have hcl:col<m:=hfk.2.1;clear hix hc;by_cases hk0:k=0
    ·
     have HE:Hid _:=HS1.out hk0;have hkt:((k:Int)==0)=true:=by simp [hk0]
     clear hk0;go_wp2;go_roundw
     case rel=>exact ⟨k+1,by omega,by go_num,by rw [HE.out],by first | rfl | trivial⟩
     case measure=>simp [intOf]; omega
    ·
     have HE:Hid _:=HS.out (by omega);have hkf:((k:Int)==0)=false:=by simp; omega
     by_cases hv:s0<z
     ·
      have HE2:Hid (_=z):=HE.out.trans (Int.max_eq_right (by omega));go_wp2;go_roundw
      case rel=>exact ⟨k+1,by omega,by go_num,by rw [HE2.out],by first | rfl | trivial⟩
      case measure=>simp [intOf]; omega
     ·
      have HE2:Hid (_=s0):=HE.out.trans (Int.max_eq_left (by omega));go_wp2;go_roundw
      case rel=>exact ⟨k+1,by omega,by go_num,by rw [HE2.out],by first | rfl | trivial⟩
      case measure=>simp [intOf]; omega
   ·
    obtain rfl:k=n:=by omega
    have HE:Hid (k1A col (g.take k)=k1A col g):=by
     show _=_;rw [HN.out,List.take_length]
    obtain ⟨s0,HS0⟩:∃ s,Hid (s=k1A col (g.take k)):=⟨_,rfl⟩;rw [<-HS0.out] at HE ⊢;clear hc;go_wp2;go_ret;exact ⟨reti HE.out,rfl⟩
theorem q6Q (u:Value) (g:List It) (agg:Int) (col:Nat) (w:World) (h:z1I w u g) (hf:q3Y g col) (hpos:0<g.length) (ha:aggB agg=true) :
  Calls Tryz.prog 116 #[u,.int .i64 agg,.int .i64 col] w fun e w'=>e = .returned (.int .i64 (x4Z agg col g))/\w'=w:=by
 have h1:=of_decide_eq_true ha;rcases (by omega:agg=0\/agg=1\/agg=2\/agg=3) with rfl | rfl | rfl | rfl
 ·
  exact l5Agg_0 u g col w h hf hpos
 ·
  exact l5Agg_1 u g col w h hf hpos
 ·
  exact l5Agg_2 u g col w h hf hpos
 ·
  exact l5Agg_3 u g col w h hf hpos
theorem l5Of_any (v u kv:Value) (z:List It) (ks key:List Int) (w:World) (h:z1I w v z) (h2:z1E w u ks) (h3:z1E w kv key) (hz:q1G z=true) (hkz:j1I z ks=true) (hl:ks.length<=6) :
  Calls Tryz.prog 117 #[v,u,kv] w fun e w'=> ∃ v',e = .returned v'/\z1I w' v' (x3E z ks key)/\Below w.heap.size w w':=by
 obtain ⟨i0,hi0,hz0,hz1,hz2⟩:=info_parts infoItem;have hrow:∀ k,k<z.length->∀ q∈ks,0<=q/\q<((z.getD k ([],0)).1.length:Int):=fun k hk q hq=>q2A.1 hkz q hq _ (by simp [List.getD,hk]);have hz100:=v1B hz;have HK2:Hid (z1E w u ks):=h2;have HK3:Hid (z1E w kv key):=h3;obtain ⟨ua,un,uc,rfl⟩:=h2.shape;obtain ⟨ka,kn,kc,rfl⟩:=h3.shape;clear h2 h3 hz hkz;rcases h.cases with ⟨a,cap,rfl,rfl⟩ | ⟨b,off,cap,hpos,hlim,rfl,hbw,hc⟩
 ·
  clear h hrow;go_enter Tryz.func117,Tryz.ntmps117;go_wp2;refine wp_loop_rounds 1 ?_;rw [rounds_succ];go_wp2;go_ret;exact ⟨_,rfl,(z1T w).items,z1C _⟩
 ·
  clear h;obtain ⟨n,hn⟩:∃ n,n=z.length:=⟨_,rfl⟩;have HN:Hid (n=z.length):=hn;rw [<-hn] at hpos hlim hc hrow hz100 ⊢;clear hn;have hS0:z1P (w.alloc (.cells #[] 47)) w.heap.size (w.alloc (.cells #[] 47)).heap.size (.slice (some ⟨w.heap.size,0,none⟩) 0 0) (prs []):=by
   obtain ⟨l,hl2,S,_,_⟩:=(z1T w).opened;have:l=[]:=List.length_eq_zero_iff.1 (by rw [<-q1E,<-hl2]; rfl);subst this;exact S
  have HS0:Hid _:=hS0;clear hS0;go_enter Tryz.func117,Tryz.ntmps117;go_wp2;go_loopw [7,8] (fun s i wr=> ∃ (k:Nat) (l:List Rw),k<=n/\i = .int .i64 k/\Hid (its l=x3E (z.take k) ks key)/\Hid (z1P wr w.heap.size wr.heap.size s (prs l))/\Hid (j1T w l)/\Hid (Below w.heap.size w wr)) (fun _ i _=>n - (intOf i).toNat)
  case atStart=>exact ⟨0,[],Nat.zero_le _,rfl,rfl,HS0.out,fun x hx=>by simp at hx,z1C _⟩
  case round=>
   obtain ⟨k,l,hk,rfl,HL,HS,HR,HW⟩:=hrel;clear HS0;by_cases hlt:k<n
   ·
    have hlt':k<z.length:=by rw [<-HN.out]; exact hlt
    have HB:=HW.out;obtain ⟨rv,hrv0,hwt0,hix0⟩:=hc k hlt;have hrv:=(HB.cell (p:=⟨b,off+k*2,none⟩) hbw).trans hrv0;have hwt:=(HB.cell (p:=⟨b,off+k*2+1,none⟩) hbw).trans hwt0;have hix:=hix0.below HB;have hr2:=hrow k hlt;have HT:Hid (x3E (z.take (k+1)) ks key=_):=grp_take (ks:=ks) (key:=key) hlt';have hll:l.length<=100:=by
     have h1:(its l).length=(x3E (z.take k) ks key).length:=by rw [HL.out]
     have h2:=q5V (z.take k) ks key;rw [q1E] at h1;rw [List.length_take] at h2;omega
    obtain ⟨x,HX⟩:∃ x,Hid (x=(z.getD k ([],0)).1):=⟨_,rfl⟩;obtain ⟨y,HY⟩:∃ y,Hid (y=(z.getD k ([],0)).2):=⟨_,rfl⟩;rw [<-HX.out] at hix hr2 HT hix0;rw [<-HY.out] at hwt HT;obtain ⟨xa,xn,xc,rfl⟩:=hix.shape;have HIX:Hid (z1E w (.slice xa xn xc) x):=hix0;have hbr:b<wr.heap.size:=Nat.lt_of_lt_of_le hbw HB.size;have hsw:=HB.size;clear hc hrow hrv0 hwt0 hix0;by_cases hy:0<y
    ·
     go_wp2_with fail;refine (j4Y _ _ x ks _ hix (HK2.out.below HB) hr2 hl).mono ?_;rintro e w2 ⟨v2,rfl,O2,hb2⟩;have hk2:=z1D HB hb2;go_wp2_with fail;refine (j3F v2 _ (x1S x ks) key _ O2.ints (HK3.out.below hk2)).mono ?_;rw [j2B];rintro e w3 ⟨rfl,hb3⟩;have hk3:=z1D hk2 hb3;have hw3:Below wr.heap.size wr w3:=z1D hb2 hb3;have hs3:=hk3.size;have hrv3:=q1N (p:=⟨b,off+k*2,none⟩) hw3 hbr hrv;have hwt3:=q1N (p:=⟨b,off+k*2+1,none⟩) hw3 hbr hwt;have S3:z1P w3 w.heap.size wr.heap.size u7 (prs l):=HS.out.keep' hw3;have HKB3:Hid (Below w.heap.size w w3):=hk3;clear hrv hwt hix hb2 hb3 hk2 hk3 O2 HB HW HS hr2;by_cases hs:x1S x ks=key
     ·
      rw [decide_eq_true hs];have HTT:Hid (its (l++[(.slice xa xn xc,(x,y))])=x3E (z.take (k+1)) ks key):=by
       show _=_;rw [HT.out,decide_eq_true hy,decide_eq_true hs,x1V,HL.out]; rfl
      have HR2:Hid (j1T w (l++[(.slice xa xn xc,(x,y))])):=fun q hq=>by
       rcases List.mem_append.1 hq with e | e
       ·
        exact HR.out q e
       ·
        simp at e; subst e; exact HIX.out
      obtain ⟨hspW,hprW,hfin⟩:=x1N (xv:=.slice xa xn xc) y S3 ⟨_,_,_,rfl⟩ (by omega) (by omega);have hpl:(prs l).length<=100:=by rw [z1H]; exact hll
      clear HT HL HR S3 hs;go_wp2_with (at_builtin; (refine z1K rfl _ _ 35 rfl w.heap.size 47 i0 Tryz.underlying35 hi0 hz0 hz1 hz2 u7 (prs l) rfl hspW _ _ rfl hprW (by simp; omega) (by simp; omega) ?_; intro v4 w4 hown4 hg4 _));obtain ⟨S4,B4⟩:=hfin v4 w4 x hown4 hg4;have HS4:Hid (z1P w4 w.heap.size w4.heap.size v4 (prs (l++[(.slice xa xn xc,(x,y))]))):=S4;have HK4:Hid (Below w.heap.size w w4):=HKB3.out.trans B4;clear hfin hown4 hg4 hspW hprW B4 S4 hrv3 hwt3 hw3;go_wp2;go_roundw
      case rel=>exact ⟨k+1,_,by omega,by go_num,HTT.out,HS4.out,HR2.out,HK4.out⟩
      case measure=>simp [intOf]; omega
     ·
      rw [decide_eq_false hs];have HTT:Hid (its l=x3E (z.take (k+1)) ks key):=by
       show _=_;rw [HT.out,decide_eq_false hs,Bool.and_false,HL.out]; simp
      have HS4:Hid (z1P w3 w.heap.size w3.heap.size u7 (prs l)):=S3.wide (Nat.le_refl _) hw3.size (Nat.le_refl _);clear HT HL S3 hs hrv3 hwt3 hw3;go_wp2;go_roundw
      case rel=>exact ⟨k+1,_,by omega,by go_num,HTT.out,HS4.out,HR.out,HKB3.out⟩
      case measure=>simp [intOf]; omega
    ·
     have HTT:Hid (its l=x3E (z.take (k+1)) ks key):=by
      show _=_;rw [HT.out,decide_eq_false hy,Bool.false_and,HL.out]; simp
     clear HT HL hr2 hix;go_wp2;go_roundw
     case rel=>exact ⟨k+1,_,by omega,by go_num,HTT.out,HS.out,HR.out,HW.out⟩
     case measure=>simp [intOf]; omega
   ·
    obtain rfl:k=n:=by omega
    have hI:z1I wr u7 (its l):=(HS.out.pairs HR.out.shape).itemsOf (HR.out.below HW.out);rw [HL.out,HN.out,List.take_length] at hI;clear hc hrow;go_wp2;go_ret;exact ⟨_,rfl,hI,HW.out⟩
end Go.Proofs.YtmjaepdplbgohaaGreatDoor
namespace Go.Proofs.YtmjaepdplbgohaaGreatDoor
def v2I (z:List It) (ks:List Int) (agg:Int) (col:Nat) (p:It):List Int:=x1S p.1 ks++[x4Z agg col (x3E z ks (x1S p.1 ks))]
def v4E (R:It->List Int) (out:List It) (p:It):List It:=if p.2<0 then out else if z2V out (R p)=0 then putZ out (R p) 1 else out
def k1R (R:It->List Int) (zs:List It):List It:=zs.foldl (v4E R) []
def v5W (R:It->List Int) (zs:List It) (q:List Int):Bool:=zs.any fun p=> !decide (p.2<0)&&decide (R p=q)
def k1Y (z:List It) (ks:List Int) (agg col:Int):Bool:=q1G z&&aggB agg&&v1N ks 6&&(j1I z ks&&j1P col z)
def v2D (z:List It) (ks:List Int) (agg:Int) (col:Nat) (p:It):Bool:=decide (p.2<0) || q1W (x4Z agg col (x3E z ks (x1S p.1 ks)))
def k1I (z:List It) (ks:List Int) (agg:Int) (col:Nat):Bool:=z.all (v2D z ks agg col)
def k1E (z:List It) (ks:List Int) (agg col:Int):Bool:=k1Y z ks agg col&&k1I z ks agg col.toNat
def z2R (z:List It) (ks:List Int) (agg col:Int):List It:=if k1E z ks agg col then k1R (v2I z ks agg col.toNat) z else []
theorem v5N (R:It->List Int) (zs:List It) (p:It):k1R R (zs++[p])=v4E R (k1R R zs) p:=by simp [k1R,List.foldl_append]
def IsG (out:List It) (H:List Int->Bool):Prop:=Srt out/\Nz out/\∀ q,z2V out q=if H q then 1 else 0
theorem isG_nil:IsG [] (fun _=>false):=⟨Srt.nil,fun p hp=>by simp at hp,fun q=>by simp [k1N]⟩
theorem isG_one {R:It->List Int} {out:List It} {H:List Int->Bool} (h:IsG out H) (p:It):IsG (v4E R out p) (fun q=>H q || (!decide (p.2<0)&&decide (R p=q))):=by
 unfold v4E;by_cases hp:p.2<0
 ·
  rw [if_pos hp];simpa [hp] using h
 ·
  rw [if_neg hp];by_cases h0:z2V out (R p)=0
  ·
   rw [if_pos h0];refine ⟨v2O h.1,z6U h.2.1,fun q=> ?_⟩;rw [k2Q h.1];by_cases e:R p=q
   ·
    rw [if_pos e,<-e,h0]; simp [hp]
   ·
    rw [if_neg e,h.2.2 q]; simp [e]
  ·
   rw [if_neg h0];refine ⟨h.1,h.2.1,fun q=> ?_⟩;have h1:=h.2.2 (R p);have h2:H (R p)=true:=by
    cases hh:H (R p) with
    | true=>rfl
    | false=>rw [hh] at h1; exact absurd h1 h0
   rw [h.2.2 q];by_cases e:R p=q
   ·
    subst e; simp [h2]
   ·
    simp [e]
theorem isG_to (R:It->List Int) (zs:List It):IsG (k1R R zs) (v5W R zs):=by
 have key:∀ (zs out:List It) (H:List Int->Bool),IsG out H->IsG (zs.foldl (v4E R) out) (fun q=>H q || v5W R zs q):=by
  intro zs;induction zs with
  | nil=>intro out H h; simpa [v5W] using h
  | cons p zs ih=>
   intro out H h;have:=ih _ _ (isG_one (R:=R) h p);rw [List.foldl_cons];have e:(fun q=>H q || v5W R (p :: zs) q)=fun q=>(H q || (!decide (p.2<0)&&decide (R p=q))) || v5W R zs q:=by
    funext q;simp [v5W,List.any_cons,Bool.or_assoc]
   rw [e];exact this
 have:=key zs [] _ isG_nil;simpa [k1R] using this
theorem getZ_ownG:∀ {zs:List It},Srt zs->∀ p∈zs,z2V zs p.1=p.2
 | q :: zs,h,p,hp=>by
  rw [z1W]
  rcases List.mem_cons.1 hp with rfl | hp
  ·
   rw [if_pos rfl]
  ·
   rw [if_neg (x2E ((Srt.cons.1 h).1 p hp))];exact getZ_ownG (Srt.cons.1 h).2 p hp
theorem IsG.mem {out:List It} {H:List Int->Bool} (h:IsG out H) {q:It} (hq:q∈out):q.2=1/\H q.1=true:=by
 have h1:=getZ_ownG h.1 q hq;have h2:=h.2.1 q hq;rw [h.2.2] at h1;cases hh:H q.1 with
 | true=>rw [hh] at h1; exact ⟨h1.symm,rfl⟩
 | false=>rw [hh] at h1; exact absurd h1.symm h2
theorem one_len (R:It->List Int) (out:List It) (p:It):(v4E R out p).length<=out.length+1:=by
 unfold v4E;by_cases hp:p.2<0
 ·
  rw [if_pos hp]; omega
 ·
  rw [if_neg hp];by_cases h0:z2V out (R p)=0
  ·
   rw [if_pos h0]; exact z3I _ _ _
  ·
   rw [if_neg h0]; omega
theorem j6I (R:It->List Int) (zs:List It):(k1R R zs).length<=zs.length:=by
 have key:∀ (zs out:List It),(zs.foldl (v4E R) out).length<=out.length+zs.length:=by
  intro zs;induction zs with
  | nil=>intro out; simp
  | cons p zs ih=>
   intro out;have h1:=ih (v4E R out p);have h2:=one_len R out p;rw [List.foldl_cons,List.length_cons]; omega
 have:=key zs [];simpa [k1R] using this
theorem v5Z {zs:List It} (hl:zs.length<=100) (hp:∀ p∈zs,z1R p.1=true/\wB p.2=true) (hs:Srt zs):q1G zs=true:=by
 refine k3Q hl fun j hj=> ?_;have h1:=hp _ (x1O hj);unfold q2B;rw [h1.1,h1.2];rcases Nat.eq_zero_or_pos j with e | e
 ·
  simp [e]
 ·
  have hj1:j - 1<zs.length:=by omega
  have h2:=(List.pairwise_iff_getElem.1 hs) (j - 1) j hj1 hj (by omega);have h3:j1A (zs.getD (j - 1) ([],0)).1 (zs.getD j ([],0)).1=true:=k4C (by simpa [List.getD,hj,hj1] using h2);rw [h3]; simp
theorem q5T {R:It->List Int} {zs:List It} {q:List Int} (h:v5W R zs q=true):∃ p∈zs,¬ p.2<0/\R p=q:=by
 unfold v5W at h;rw [List.any_eq_true] at h;obtain ⟨p,hp,h2⟩:=h;rw [Bool.and_eq_true] at h2;exact ⟨p,hp,by simpa using h2.1,of_decide_eq_true h2.2⟩
theorem q3N {z:List It} (hz:q1G z=true) {p:It} (hp:p∈z):z1R p.1=true/\wB p.2=true:=by
 obtain ⟨j,hj,e⟩:=j1J (d:=([],0)) hp;rw [<-e]; exact j1S hz hj
theorem rowG_ok {z:List It} {ks:List Int} {agg:Int} {col:Nat} (hz:q1G z=true) (hk6:v1N ks 6=true) (hkz:j1I z ks=true) {p:It} (hp:p∈z) (hc:q1W (x4Z agg col (x3E z ks (x1S p.1 ks)))=true):z1R (v2I z ks agg col p)=true:=by
 have h1:=q2S (q3N hz hp).1 (fun k hk=>q2A.1 hkz k hk p hp);have h2:=(x2Y hk6).1;unfold v2I z1R;rw [List.length_append,k1M,List.all_append,h1];simp [hc];omega
theorem q5W {z:List It} {ks:List Int} {agg:Int} {col:Nat} (hz:q1G z=true) (hk6:v1N ks 6=true) (hkz:j1I z ks=true) {zs:List It} (hsub:∀ p∈zs,p∈z) (hl:zs.length<=100) (ht:∀ p∈zs,v2D z ks agg col p=true):q1G (k1R (v2I z ks agg col) zs)=true:=by
 have hG:=isG_to (v2I z ks agg col) zs;refine v5Z (by have:=j6I (v2I z ks agg col) zs; omega) (fun q hq=> ?_) hG.1;obtain ⟨h1,h2⟩:=hG.mem hq;obtain ⟨p,hp,h3,h4⟩:=q5T h2;rw [h1,<-h4];have h5:=ht p hp;unfold v2D at h5;rw [decide_eq_false h3,Bool.false_or] at h5;exact ⟨rowG_ok hz hk6 hkz (hsub p hp) h5,by decide⟩
theorem q5U {z:List It} {col:Nat} (hz:q1G z=true) (hc:j1P col z=true) (ks key:List Int):q3Y (x3E z ks key) col:=by
 refine ⟨by have:=q5V z ks key; have:=v1B hz; omega,fun p hp=> ?_⟩;have hpz:p∈z:=(List.mem_filter.1 hp).1;obtain ⟨h1,h2⟩:=q3N hz hpz;have h3:=z3P.1 hc p hpz;have hlt:col<p.1.length:=by omega
 refine ⟨(x3U h2).2,hlt,?_⟩;simp only [z1R,Bool.and_eq_true,List.all_eq_true] at h1;have h4:=h1.2 p.1[col] (List.getElem_mem hlt);simp [q1W] at h4;simpa [List.getD,hlt] using h4
theorem grp_some {z:List It} {p:It} (hp:p∈z) (hw:0<p.2) (ks:List Int):0<(x3E z ks (x1S p.1 ks)).length:=
 List.length_pos_of_mem (List.mem_filter.2 ⟨hp,by simp [hw]⟩)
theorem v2T {z:List It} {ks:List Int} {agg col:Int} (h:k1E z ks agg col=false):z2R z ks agg col=[]:=by unfold z2R; rw [h]; rfl
end Go.Proofs.YtmjaepdplbgohaaGreatDoor
namespace Go.Proofs.YtmjaepdplbgohaaGreatDoor
open Go.RowKit
attribute [local go_sem ↓] Go.wp_at_zero Go.wp_at_succ
theorem told_no {z:List It} {ks:List Int} {agg:Int} {col k:Nat} (hk:k<z.length) (h:v2D z ks agg col (z.getD k ([],0))=false):k1I z ks agg col=false:=by
 unfold k1I;rw [List.all_eq_false];exact ⟨z.getD k ([],0),by simp [List.getD,hk],by rw [h]; exact Bool.false_ne_true⟩
theorem told_all {z:List It} {ks:List Int} {agg:Int} {col:Nat} (h:∀ k,k<z.length->v2D z ks agg col (z.getD k ([],0))=true):k1I z ks agg col=true:=by
 unfold k1I;rw [List.all_eq_true];intro p hp;obtain ⟨j,hj,e⟩:=j1J (d:=([],0)) hp;rw [<-e]; exact h j hj
theorem to_take (R:It->List Int) {z:List It} {k:Nat} (hk:k<z.length):k1R R (z.take (k+1))=v4E R (k1R R (z.take k)) (z.getD k ([],0)):=by
 rw [k2D hk,v5N]
theorem z4A (v u:Value) (z:List It) (ks:List Int) (agg col:Int) (w:World) (h:z1I w v z) (h2:z1E w u ks) :
  Calls Tryz.prog 68 #[v,u,.int .i64 agg,.int .i64 col] w fun e w'=> ∃ v',e = .returned (.tuple #[v',.bool (k1E z ks agg col)])/\z1V w' w.heap.size w'.heap.size v' (z2R z ks agg col)/\Below w.heap.size w w':=by
 cases hz:q1G z with
 | false=>
  have e0:k1E z ks agg col=false:=by unfold k1E k1Y; rw [hz]; rfl
  rw [e0,v2T e0];clear e0;go_enter Tryz.func68,Tryz.ntmps68;go_wp2_with fail;refine (z1M v z _ h).mono ?_;rw [hz];rintro e w1 ⟨rfl,b1⟩;have k1:=b1.below;clear b1;have HK:Hid (Below w.heap.size w w1):=k1;clear h h2 k1;go_wp2;go_ret2;exact ⟨_,rfl,(z1T w1).wide HK.out.size (Nat.le_refl _) (Nat.le_refl _),z1D HK.out (z1C _)⟩
 | true=>
  by_cases ha1:agg<0
  ·
   skip;have e0:k1E z ks agg col=false:=by unfold k1E k1Y aggB; rw [decide_eq_false (by omega)]; simp
   rw [e0,v2T e0];clear e0;go_enter Tryz.func68,Tryz.ntmps68;go_wp2_with fail;refine (z1M v z _ h).mono ?_;rw [hz];rintro e w1 ⟨rfl,b1⟩;have k1:=b1.below;clear b1;have HK:Hid (Below w.heap.size w w1):=k1;clear h h2 k1;go_wp2;go_ret2;exact ⟨_,rfl,(z1T w1).wide HK.out.size (Nat.le_refl _) (Nat.le_refl _),z1D HK.out (z1C _)⟩
  by_cases ha2:3<agg
  ·
   skip;have e0:k1E z ks agg col=false:=by unfold k1E k1Y aggB; rw [decide_eq_false (by omega)]; simp
   rw [e0,v2T e0];clear e0;go_enter Tryz.func68,Tryz.ntmps68;go_wp2_with fail;refine (z1M v z _ h).mono ?_;rw [hz];rintro e w1 ⟨rfl,b1⟩;have k1:=b1.below;clear b1;have HK:Hid (Below w.heap.size w w1):=k1;clear h h2 k1;go_wp2;go_ret2;exact ⟨_,rfl,(z1T w1).wide HK.out.size (Nat.le_refl _) (Nat.le_refl _),z1D HK.out (z1C _)⟩
  have hag:aggB agg=true:=decide_eq_true (by omega);cases hk:v1N ks 6 with
  | false=>
   have e0:k1E z ks agg col=false:=by unfold k1E k1Y; rw [hk]; simp
   rw [e0,v2T e0];clear e0;go_enter Tryz.func68,Tryz.ntmps68;go_wp2_with fail;refine (z1M v z _ h).mono ?_;rw [hz];rintro e w1 ⟨rfl,b1⟩;have k1:=b1.below;clear b1;go_wp2_with fail;refine (v1H u ks 6 _ (h2.below k1) (by omega)).mono ?_;rw [hk];rintro e w2 ⟨rfl,b2⟩;have k2:=z1D k1 b2;clear b2 k1;have HK:Hid (Below w.heap.size w w2):=k2;clear h h2 k2;go_wp2;go_ret2;exact ⟨_,rfl,(z1T w2).wide HK.out.size (Nat.le_refl _) (Nat.le_refl _),z1D HK.out (z1C _)⟩
  | true=>
   have hw1:∀ k,k<z.length->(z.getD k ([],0)).1.length<=6:=fun k hk=>k1Z (j1S hz hk).1;have hfh:=j6Q (zs:=z) hk col;cases f1:q4E z ks col with
   | false=>
    have e0:k1E z ks agg col=false:=by unfold k1E k1Y; rw [<-hfh,f1]; simp
    rw [e0,v2T e0];clear e0;go_enter Tryz.func68,Tryz.ntmps68;go_wp2_with fail;refine (z1M v z _ h).mono ?_;rw [hz];rintro e w1 ⟨rfl,b1⟩;have k1:=b1.below;clear b1;go_wp2_with fail;refine (v1H u ks 6 _ (h2.below k1) (by omega)).mono ?_;rw [hk];rintro e w2 ⟨rfl,b2⟩;have k2:=z1D k1 b2;clear b2 k1;go_wp2_with fail;refine (k3A v u z ks col _ (h.below k2) (h2.below k2) hw1).mono ?_;rw [f1];rintro e w3 ⟨rfl,b3⟩;have k3:=z1D k2 b3;clear b3 k2;have HK:Hid (Below w.heap.size w w3):=k3;clear h h2 k3;go_wp2;go_ret2;exact ⟨_,rfl,(z1T w3).wide HK.out.size (Nat.le_refl _) (Nat.le_refl _),z1D HK.out (z1C _)⟩
   | true=>
    rw [f1] at hfh;obtain ⟨hkz,hcz⟩:j1I z ks=true/\j1P col z=true:=by have:=hfh.symm; rw [Bool.and_eq_true] at this; exact this
    have hcan:k1Y z ks agg col=true:=by unfold k1Y; rw [hz,hag,hk,hkz,hcz]; rfl
    have hl:ks.length<=6:=by have:=(x2Y hk).1; omega
    obtain ⟨os,HO⟩:∃ os,Hid (os=z2R z ks agg col):=⟨_,rfl⟩;obtain ⟨c,HC⟩:∃ c,Hid (c=k1E z ks agg col):=⟨_,rfl⟩;have HCC:Hid (c=k1I z ks agg col.toNat):=by show _=_; rw [HC.out]; unfold k1E; rw [hcan]; rfl
    have HOO:Hid (os=if c then k1R (v2I z ks agg col.toNat) z else []):=by show _=_; rw [HO.out,HC.out]; rfl
    rw [<-HO.out,<-HC.out];clear hfh hcan;have hi:=info_parts infoInt;obtain ⟨i0,hi1,hj0,hj1,hj2⟩:=hi;go_enter Tryz.func68,Tryz.ntmps68;go_wp2_with fail;refine (z1M v z _ h).mono ?_;rw [hz];rintro e w1 ⟨rfl,b1⟩;have k1:=b1.below;clear b1;go_wp2_with fail;refine (v1H u ks 6 _ (h2.below k1) (by omega)).mono ?_;rw [hk];rintro e w2 ⟨rfl,b2⟩;have k2:=z1D k1 b2;clear b2 k1;go_wp2_with fail;refine (k3A v u z ks col _ (h.below k2) (h2.below k2) hw1).mono ?_;rw [f1];rintro e w3 ⟨rfl,b3⟩;have k3:=z1D k2 b3;clear b3 k2;have s3:=k3.size;have HK3:Hid (Below w.heap.size w w3):=k3;rcases h.cases with ⟨a,cap,rfl,rfl⟩ | ⟨b,off,cap,hpos,hlim,rfl,hbw,hc⟩
    ·
     obtain rfl:c=true:=by rw [HCC.out]; rfl
     obtain rfl:os=[]:=by rw [HOO.out]; rfl
     clear h h2 k3;go_wp2;refine wp_loop_rounds 1 ?_;rw [rounds_succ];go_wp2_with fail;refine (k1H _ [] w3.heap.size (w3.alloc (.cells #[] 47)).heap.size _ (z1T w3) (by simp)).mono ?_;rintro e w5 ⟨v5,rfl,Z5,b5⟩;have HK5:Hid (Below w.heap.size w w5):=z1D (z1D HK3.out (z1C _)) b5;have R:Hid (z1V w5 w.heap.size w5.heap.size v5 []):=by have:=Z5.wide s3 (Nat.le_refl _) (Nat.le_refl _); show z1V _ _ _ _ _; simpa [q1G] using this
     clear Z5 b5;go_wp2;go_ret2;exact ⟨_,rfl,R.out,HK5.out⟩
    ·
     obtain ⟨cn,rfl⟩:∃ cn:Nat,col=(cn:Int):=by
      have:=z3P.1 hcz (z.getD 0 ([],0)) (by simp [List.getD,hpos]);exact ⟨col.toNat,by omega⟩
     simp only [Int.toNat_natCast] at HCC HOO;have HI:Hid (z1I w (.slice (some ⟨b,off,none⟩) z.length cap) z):=h;have HI2:Hid (z1E w u ks):=h2;obtain ⟨ua,un,uc,rfl⟩:=h2.shape;have hz100:=v1B hz;have hrow:∀ k,k<z.length->z1R (z.getD k ([],0)).1=true/\wB (z.getD k ([],0)).2=true/\z.getD k ([],0)∈z/\∀ q∈ks,0<=q/\q<((z.getD k ([],0)).1.length:Int):=fun k hk2=>⟨(j1S hz hk2).1,(j1S hz hk2).2,x1O hk2,fun q hq=>q2A.1 hkz q hq _ (x1O hk2)⟩;have HZ:Hid (q1G z=true):=hz;have HKZ:Hid (j1I z ks=true):=hkz;have HKK:Hid (v1N ks 6=true):=hk;have HCZ:Hid (j1P (cn:Int) z=true):=hcz;have HTA:Hid (∀ k,k<=z.length->(∀ j,j<k->v2D z ks agg cn (z.getD j ([],0))=true)->q1G (k1R (v2I z ks agg cn) (z.take k))=true):=fun k hk2 ht=>q5W hz hk hkz (fun p hp=>List.mem_of_mem_take hp) (by rw [List.length_take]; omega) (fun p hp=>by
      obtain ⟨j,hj,e⟩:=List.mem_take_iff_getElem.1 hp
      have:=ht j (by omega)
      rw [<-e]
      simpa [List.getD,show j<z.length by omega] using this)
     have HTN:Hid (∀ k,k<z.length->v2D z ks agg cn (z.getD k ([],0))=false->c=false):=fun k hk2 hn=>by rw [HCC.out]; exact told_no hk2 hn
     have HTY:Hid ((∀ k,k<z.length->v2D z ks agg cn (z.getD k ([],0))=true)->c=true):=fun ht=>by rw [HCC.out]; exact told_all ht
     obtain ⟨n,hn⟩:∃ n,n=z.length:=⟨_,rfl⟩;have HN:Hid (n=z.length):=hn;rw [<-hn] at hpos hlim hc hrow hz100 HTA HTN HTY ⊢;rw [<-hn] at HI;clear hn h h2 hz hkz hk hcz hw1 k3;go_wp2;go_loopw [10,11] (fun s i wr=> ∃ k:Nat,k<=n/\i = .int .i64 k/\Hid (z1V wr w.heap.size wr.heap.size s (k1R (v2I z ks agg cn) (z.take k)))/\Hid (∀ j,j<k->v2D z ks agg cn (z.getD j ([],0))=true)/\Hid (Below w.heap.size w wr)) (fun _ i _=>n - (intOf i).toNat)
     case atStart=>exact ⟨0,Nat.zero_le _,rfl,(z1T w3).wide s3 (Nat.le_refl _) (Nat.le_refl _),fun j hj=>by omega,z1D HK3.out (z1C _)⟩
     case round=>
      obtain ⟨k,hk,rfl,HS,HA,HW⟩:=hrel;clear HK3;by_cases hlt:k<n
      ·
       have hlt':k<z.length:=by rw [<-HN.out]; exact hlt
       have HB:=HW.out;obtain ⟨rv,hrv0,hwt0,hix0⟩:=hc k hlt;have hrv:=(HB.cell (p:=⟨b,off+k*2,none⟩) hbw).trans hrv0;have hwt:=(HB.cell (p:=⟨b,off+k*2+1,none⟩) hbw).trans hwt0;have hix:=hix0.below HB;obtain ⟨hr1,hr2,hr3,hr4⟩:=hrow k hlt;have HT:Hid (k1R (v2I z ks agg cn) (z.take (k+1))=v4E (v2I z ks agg cn) (k1R (v2I z ks agg cn) (z.take k)) (z.getD k ([],0))):=to_take _ hlt';have htn:=HTN.out k hlt;have hzok:=HTA.out k (by omega) HA.out;have HAS:Hid (v2D z ks agg cn (z.getD k ([],0))=true->∀ j,j<k+1->v2D z ks agg cn (z.getD j ([],0))=true):=fun ht j hj=>by
        rcases Nat.lt_succ_iff_lt_or_eq.1 hj with h | h
        ·
         exact HA.out j h
        ·
         rw [h]; exact ht
       obtain ⟨p,hp⟩:∃ p,p=z.getD k ([],0):=⟨_,rfl⟩;rw [<-hp] at hwt hix hr1 hr2 hr3 hr4 HT htn HAS;clear hp;obtain ⟨x,y⟩:=p;simp only at hwt hix hr1 hr2 hr4;have hy0:=(x3U hr2).1;obtain ⟨xa,xn,xc,rfl⟩:=hix.shape;have hsw:=HB.size;clear hrv0 hwt0 hix0;by_cases hy:y<0
       ·
        have HTT:Hid (k1R (v2I z ks agg cn) (z.take (k+1))=k1R (v2I z ks agg cn) (z.take k)):=by show _=_; rw [HT.out]; unfold v4E; rw [if_pos hy]
        have HA2:=HAS.out (by unfold v2D; rw [decide_eq_true hy]; rfl);have HA3:Hid _:=HA2;clear HT htn hzok HAS HA2 hr1 hr2 hr3 hr4 hc hrow hix;go_wp2;go_roundw
        case rel=>exact ⟨k+1,by omega,by go_num,by show z1V _ _ _ _ _; rw [HTT.out]; exact HS.out,HA3.out,HW.out⟩
        case measure=>simp [intOf]; omega
       ·
        have hyp:0<y:=by omega
        have hsome:=grp_some hr3 hyp ks;have hfine:=q5U HZ.out HCZ.out ks (x1S x ks);simp only at hsome;have htold:v2D z ks agg cn (x,y)=q1W (x4Z agg cn (x3E z ks (x1S x ks))):=by unfold v2D; rw [decide_eq_false hy]; rfl
        rw [htold] at htn HAS;have HRG:Hid (v2I z ks agg cn (x,y)=x1S x ks++[x4Z agg cn (x3E z ks (x1S x ks))]):=rfl;clear hc hrow htold;go_wp2_with fail;refine (j4Y _ _ x ks _ hix (HI2.out.below HB) hr4 hl).mono ?_;rintro e w4 ⟨v4,rfl,O4,b4⟩;have k4:=z1D HB b4;go_wp2_with fail;refine (l5Of_any _ _ v4 z ks (x1S x ks) _ (HI.out.below k4) (HI2.out.below k4) O4.ints HZ.out HKZ.out hl).mono ?_;rintro e w5 ⟨v5,rfl,I5,b5⟩;have k5:=z1D k4 b5;have O5:=O4.keep' b5;have s4:=b4.size;have s5:=b5.size;have S5:=(HS.out.keep' b4).keep' b5;clear hrv hwt hix b4 b5 k4 O4 HB HW HS;go_wp2_with fail;refine (q6Q v5 (x3E z ks (x1S x ks)) agg cn _ I5 hfine hsome hag).mono ?_;obtain ⟨m,HM⟩:∃ m,Hid (m=x4Z agg cn (x3E z ks (x1S x ks))):=⟨_,rfl⟩;rw [<-HM.out];rw [<-HM.out] at htn HAS HRG;rintro e w6 ⟨rfl,rfl⟩;clear I5 hfine hsome;go_wp2_with fail;refine (q1U m _).mono ?_;rintro e w6 ⟨rfl,rfl⟩;cases hcm:q1W m with
        | false=>
         obtain rfl:c=false:=htn hcm;obtain rfl:os=[]:=by rw [HOO.out]; rfl
         have HK6:Hid (Below w.heap.size w w6):=k5;clear htn HAS HT hzok S5 O5 k5 hr4;go_wp2;go_ret2;exact ⟨_,rfl,(z1T w6).wide HK6.out.size (Nat.le_refl _) (Nat.le_refl _),z1D HK6.out (z1C _)⟩
        | true=>
         have HA3:Hid _:=HAS.out hcm;have hkl:(x1S x ks).length<=6:=by rw [k1M]; exact hl
         have hal:Below w6.heap.size w6 (w6.alloc (.cells #[.int .i64 m] 3)):=z1C _;have O6:=O5.keep' hal;have S6:=S5.keep' hal;have k6:=z1D k5 hal;have s6:=k5.size;have s6a:=hal.size;clear htn HAS O5 S5 hr4 hcm;go_wp2_with (at_builtin; refine z1Q rfl _ _ 28 rfl wr.heap.size 3 i0 Tryz.underlying28 hi1 hj0 hj1 hj2 v4 _ _ rfl O6.1 _ [m] rfl (q3T w6 m) (by simp; omega) (by simp; omega) ?_; intro v7 w7 hown7 hg7 _);have O7:Own w7 wr.heap.size w7.heap.size v7 (x1S x ks++[m]):=x1Y (xs:=x1S x ks++[m]) (by simpa using hown7) (by simp; omega);have hlow:∀ i,v4.ownBlock=some i->wr.heap.size<=i/\i<w4.heap.size:=fun i e=>⟨(O6.1.lt i e).1,O6.2.1 i e⟩;have B7:Below wr.heap.size (w6.alloc (.cells #[.int .i64 m] 3)) w7:=(Below.refl _ _).grown hg7 (by have:=hal.size; omega) (fun i e=>(hlow i e).1);have S7:=S6.only (Only.of_grown hg7 hlow) (.inl (Nat.le_refl _));have k7:Below w.heap.size w w7:=k6.trans (B7.mono hsw);have s7:=hg7.size;rw [<-HRG.out] at O7;clear hown7 hg7 O6 S6 hal k6 k5 hlow B7;obtain ⟨r,HRR⟩:∃ r,Hid (r=v2I z ks agg cn (x,y)):=⟨_,rfl⟩;have hrl:r.length<=7:=by rw [HRR.out,HRG.out]; simp; omega
         rw [<-HRR.out] at O7;obtain ⟨G,HG⟩:∃ G,Hid (G=k1R (v2I z ks agg cn) (z.take k)):=⟨_,rfl⟩;rw [<-HG.out] at S7 hzok HT;have hGl:G.length<=100:=v1B hzok;have HTT:Hid (k1R (v2I z ks agg cn) (z.take (k+1))=if z2V G r=0 then putZ G r 1 else G):=by show _=_; rw [HT.out,HRR.out]; unfold v4E; rw [if_neg (by show ¬ y<0; omega)]
         have hG1:∀ j,j<G.length->-4611686018427387904<=(G.getD j ([],0)).2/\(G.getD j ([],0)).2<=4611686018427387903:=fun j hj=>by
          have:=(x3U (j1S hzok hj).2).2
          omega
         clear HT;go_wp2_with fail;refine (q4Z _ G v7 r _ S7.items O7.ints).mono ?_;rw [hzok];simp only [if_true];rintro e w8 ⟨rfl,b8⟩;have k8:=z1D k7 b8;have S8:=S7.keep' b8;have O8:=O7.keep' b8;have s8:=b8.size;clear S7 O7 b8 k7;by_cases hg0:z2V G r=0
         ·
          rw [hg0];go_wp2_with fail;refine (k1Q _ w.heap.size wr.heap.size G _ r 1 _ S8 hsw O8.ints (by omega) (by omega) hG1 (by omega)).mono ?_;rintro e w9 ⟨v9,rfl,Z9,O9⟩;have HK9:Hid (Below w.heap.size w w9):=O9.below k8 (Nat.le_refl _) k8.size;have HZ9:Hid (z1V w9 w.heap.size w9.heap.size v9 (k1R (v2I z ks agg cn) (z.take (k+1)))):=by show z1V _ _ _ _ _; rw [HTT.out,if_pos hg0]; exact Z9
          clear Z9 O9 k8 S8 O8 hG1;go_wp2;go_roundw
          case rel=>exact ⟨k+1,by omega,by go_num,HZ9.out,HA3.out,HK9.out⟩
          case measure=>simp [intOf]; omega
         ·
          have hgf:(z2V G r==0)=false:=by simp [hg0]
          have HZ9:Hid (z1V w8 w.heap.size w8.heap.size u10 (k1R (v2I z ks agg cn) (z.take (k+1)))):=by show z1V _ _ _ _ _; rw [HTT.out,if_neg hg0]; exact S8.wide (Nat.le_refl _) (by omega) (Nat.le_refl _)
          have HK9:Hid (Below w.heap.size w w8):=k8;clear k8 S8 O8 hG1;go_wp2;go_roundw
          case rel=>exact ⟨k+1,by omega,by go_num,HZ9.out,HA3.out,HK9.out⟩
          case measure=>simp [intOf]; omega
      ·
       obtain rfl:k=n:=by omega
       obtain rfl:c=true:=HTY.out HA.out;have hzok:=HTA.out k (Nat.le_refl _) HA.out;have hS:=HS.out;rw [HN.out,List.take_length] at hS hzok;have hos:os=k1R (v2I z ks agg cn) z:=by rw [HOO.out]; rfl
       rw [<-hos] at hS hzok;have hsw:=HW.out.size;clear hc hrow;go_wp2_with fail;refine (k1H _ os _ _ _ hS hsw).mono ?_;rw [hzok];simp only [if_true];rintro e w5 ⟨v5,rfl,Z5,b5⟩;have HK5:Hid (Below w.heap.size w w5):=z1D HW.out b5;have R:Hid (z1V w5 w.heap.size w5.heap.size v5 os):=Z5;clear Z5 b5 hS;go_wp2;go_ret2;exact ⟨_,rfl,R.out,HK5.out⟩
end Go.Proofs.YtmjaepdplbgohaaGreatDoor
namespace Go.Proofs.YtmjaepdplbgohaaGreatDoor
open Go.RowKit Go.Maps
attribute [local go_sem ↓] Go.wp_at_zero Go.wp_at_succ
theorem q3F {P:Program} {w:World} {ops:Array Oper} {rest:List Oper} {o:Oper} {a:Act} {Q:Exit->Act->World->Prop}
  (hg:o.guard=none) (s x:Operand) (t:TypeId) (hop:o.op=Op.call { callee:=Callee.builtin Builtin.append,args:=#[s,x],argTypes:=#[t,t] })
  (base:Nat) (e:TypeId) (i:TypeInfo) (ht:P.underlying t=some (.slice e)) (hi:P.info? e=some i) (hz:i.zero=some (.agg #[.slice none 0 0,.int .i64 0]))
  (hsize:i.size=2) (hby:i.bytes=32)
  (v:Value) (ps:List (Value × Int)) (hs:a.eval s=v) (hown:w.ownsRow base e 2 v ps.length (z1Z ps))
  (ad:Addr) (m c:Nat) (qs:List (Value × Int)) (hx:a.eval x = .slice (some ad) m c) (hp:z1Y w (.slice (some ad) m c) qs)
  (hbytes:(ps.length+qs.length)*32<=140737488355328) (hbase:base<=w.heap.size)
  (hK:∀ v' w',w'.ownsRow base e 2 v' (ps++qs).length (z1Z (ps++qs))->w.grownBy w' v.ownBlock->(v'.ownBlock=v.ownBlock\/v'.ownBlock=some w.heap.size)->wpList P ops Q rest (a.put o.dst v') w') :
  wpList P ops Q (o :: rest) a w:=by
 obtain ⟨hm,hnews,hsl⟩:=hp.news;refine wpList_plain hg fun K' hK'=> ?_;subst hm;obtain ⟨v',w',hrun,r1,r2,_,r3⟩:=run_append_own_at (P:=P) w base t o.type e i (.agg #[.slice none 0 0,.int .i64 0]) 2 32 ht hi hz hsize hby rfl (by decide) v ps.length (z1Z ps) hown ad qs.length c (z1Z qs) (by rw [j1D]) hnews (v2B hsl) (by unfold maxLen; omega) hbytes hbase;unfold Oper.wp;simp [execOp,hop,resolve,invoke,builtin,hs,hx,hrun,Result.andThen];rw [<-z2E] at r1;exact hK' _ _ (hK v' w' (by rw [List.length_append]; exact r1) r2 r3)
def v5X (w:World) (t:TypeId) (mb lo n:Nat) (G:List UInt8->List Rw):Prop:=
 ∃ (D:DataW Value) (V:List UInt8->Value),w.ownsMap Tryz.prog 9 v3L mb n D/\(∀ c,D.atKey (.string c) (.held vn) = .held (V c))/\(∀ c,z1P w lo w.heap.size (V c) (prs (G c))) ∧
  (∀ c d,c≠d->(V c).ownBlock=none\/(V c).ownBlock≠(V d).ownBlock)/\mb<lo/\Tryz.prog.underlying t=some (.map 9 35)/\∀ c,has D (.string c) = !(G c).isEmpty
theorem j5U (w:World) (lo:Nat):z1P w lo w.heap.size vn (prs []):=⟨⟨rfl,.inl ⟨rfl,rfl⟩⟩,fun k hk=>by simp [vn,Value.ownBlock] at hk,by simp [prs],Nat.le_refl _⟩
theorem k5W (w:World) (t:TypeId) (ht:Tryz.prog.underlying t=some (.map 9 35)):v5X (w.alloc (.map #[] 0)) t w.heap.size (w.heap.size+1) 0 (fun _=>[]):=
 ⟨.map [],fun _=>vn,World.ownsMap_made w _ _ _,fun _=>rfl,fun _=>j5U _ _,fun _ _ _=> .inl rfl,Nat.lt_succ_self _,ht,fun _=>rfl⟩
theorem v5X.grown {w w':World} {t:TypeId} {mb lo n:Nat} {G:List UInt8->List Rw} (h:v5X w t mb lo n G) (hb:Below w.heap.size w w'):v5X w' t mb lo n G:=by
 obtain ⟨D,V,h1,h2,h3,h4,h5,h6,h7⟩:=h;have hg:w.grownBy w' none:=⟨hb.os,hb.tape,hb.output,hb.size,fun k hk _=>hb.block k hk⟩;exact ⟨D,V,h1.kept hg (by simp),h2,fun c=>((h3 c).keep' hb).wide (Nat.le_refl _) hb.size (Nat.le_refl _),h4,h5,h6,h7⟩
theorem v5X.look {w:World} {t:TypeId} {mb lo n:Nat} {G:List UInt8->List Rw} (h:v5X w t mb lo n G) {s:ByteArray} (hs0:s.size<=maxLen) (hn:n<maxLen) :
  ∃ v,(∀ w',w.grownBy w' none->(Instr.lookup t (.map (some mb)) (.string s) false).run Tryz.prog w' = .ok v w')/\z1P w lo w.heap.size v (prs (G s.data.toList)) ∧
   ∀ (w1:World) (v':Value) (L:List Rw),L≠[]->w.grownBy w1 v.ownBlock->z1P w1 lo w1.heap.size v' (prs L)->(v'.ownBlock=v.ownBlock\/∃ g,v'.ownBlock=some g/\w.heap.size<=g) →
    ∃ w2,(Instr.mapUpdate t (.map (some mb)) (.string s) v').run Tryz.prog w1 = .ok () w2/\v5X w2 t mb lo (n+1) (fun d=>if d=s.data.toList then L else G d)/\w1.grownBy w2 (some mb):=by
 obtain ⟨D,V,h1,h2,h3,h4,h5,h6,h7⟩:=h;obtain ⟨c,hcs⟩:∃ c,c=s.data.toList:=⟨_,rfl⟩;rw [<-hcs];have K:Keyed Tryz.prog 9:=string_keyed Tryz.underlying9;have hk:keyOf Tryz.prog 9 (.string s)=some (.string c):=by rw [hcs]; exact Go.WideMaps.keyOf_string_mk Tryz.underlying9 hs0
 refine ⟨V c,fun w' hg=> ?_,h3 c,fun w1 v' L hL hg hs hloc=> ?_⟩
 ·
  have h1':=h1.kept hg (by simp);obtain ⟨v,ps,hrun,hv⟩:=h1'.lookup K h6 (z:=vn) (Tryz.zeroValue35 _) (zd:=.held vn) (zp:=[]) rfl hk;have:v=V c:=by
   simp only [v3L,h2 c] at hv;injection hv with hv;injection hv with hv _;injection hv
  rw [hrun,this]
 ·
  have hne:some mb≠(V c).ownBlock:=fun e=>by
   have:=((h3 c).1.lt mb e.symm).1
   omega
  have h1':=h1.kept hg hne;obtain ⟨w2,hrun,hm2,hg2⟩:=h1'.update K h6 hn hk (val:=v') (d:=.held v') (ps:=[]) rfl;have own_lo:∀ {u:Value} {ps:List (Value × Int)} {W:World},z1P W lo W.heap.size u ps->u.ownBlock=none\/u.ownBlock≠some mb:=fun {u ps W} ho=>by
   cases hu:u.ownBlock with
   | none=>exact .inl rfl
   | some g=>
    refine .inr (fun e=> ?_)
    have:=(ho.1.lt g hu).1
    simp at e
    omega
  have old_new:∀ d,d≠c->(V d).ownBlock=none\/(V d).ownBlock≠v'.ownBlock:=fun d hd=>by
   rcases hloc with e | ⟨g,e,hgl⟩
   ·
    rw [e]; exact h4 d c hd
   ·
    cases hd':(V d).ownBlock with
    | none=>exact .inl rfl
    | some gd=>
     refine .inr (fun e1=> ?_);have:=(h3 d).2.1 gd hd';rw [e] at e1;simp at e1;omega
  refine ⟨w2,hrun,⟨D.put (Lit.string c) (.held v'),fun d=>if d=c then v' else V d,hm2,fun d=> ?_,fun d=> ?_,fun d f hdf=> ?_,h5,h6,fun d=> ?_⟩,hg2⟩
  ·
   show _=DataW.held (if d=c then v' else V d);by_cases hd:d=c
   ·
    subst hd;rw [if_pos rfl];exact atKey_put_same (k:=.string d) (isMapT h1) (by simp [WideAt.IsKeyLit]) _ _
   ·
    rw [if_neg hd,<-h2 d];exact atKey_put_other (fun e=>hd (by simpa using e)) _ _
  ·
   by_cases hd:d=c
   ·
    simp only [if_pos hd];exact (hs.kept hg2 (own_lo hs)).wide (Nat.le_refl _) hg2.size (Nat.le_refl _)
   ·
    simp only [if_neg hd];have s1:z1P w1 lo w1.heap.size (V d) (prs (G d)):=((h3 d).kept hg (h4 d c hd)).wide (Nat.le_refl _) hg.size (Nat.le_refl _);exact (s1.kept hg2 (own_lo s1)).wide (Nat.le_refl _) hg2.size (Nat.le_refl _)
  ·
   by_cases hd:d=c
   ·
    by_cases hf:f=c
    ·
     exact absurd (hd.trans hf.symm) hdf
    ·
     simp only [if_pos hd,if_neg hf];rcases old_new f hf with e | e
     ·
      cases hv:v'.ownBlock with
      | none=>exact .inl rfl
      | some g=>exact .inr (fun e2=>by rw [e] at e2; cases e2)
     ·
      exact .inr (fun e2=>e e2.symm)
   ·
    by_cases hf:f=c
    ·
     simp only [if_neg hd,if_pos hf];exact old_new d hd
    ·
     simp only [if_neg hd,if_neg hf];exact h4 d f hdf
  ·
   show has (D.put (Lit.string c) (.held v')) (.string d) = !(if d=c then L else G d).isEmpty;by_cases hd:d=c
   ·
    subst hd;rw [if_pos rfl,has_put_same (isMapT h1) (by simp [WideAt.IsKeyLit])];cases L with
    | nil=>exact absurd rfl hL
    | cons _ _=>rfl
   ·
    rw [if_neg hd,has_put_other (fun e=>hd (by simpa using e)),h7 d]
def z2K (z:List It) (ks:List Int) (s:List UInt8):List It:=z.filter fun p=>decide (0<p.2)&&decide (rowTx (x1S p.1 ks)=s)
theorem j6J {z:List It} {ks:List Int} {k:Nat} (hk:k<z.length) (s:List UInt8):z2K (z.take (k+1)) ks s=z2K (z.take k) ks s++(if decide (0<(z.getD k ([],0)).2)&&decide (rowTx (x1S (z.getD k ([],0)).1 ks)=s) then [((z.getD k ([],0)).1,(z.getD k ([],0)).2)] else []):=by
 unfold z2K;have e:z.getD k ([],0)=z[k]:=by simp [List.getD,hk]
 rw [List.take_succ_eq_append_getElem hk,List.filter_append,e,List.filter_cons,List.filter_nil]
theorem grpT_len (z:List It) (ks:List Int) (s:List UInt8):(z2K z ks s).length<=z.length:=List.length_filter_le _ _
theorem v5P (v u:Value) (z:List It) (ks:List Int) (w:World) (htab:Tab w) (h:z1I w v z) (h2:z1E w u ks) (hz:q1G z=true) (hkz:j1I z ks=true) (hl:ks.length<=6) :
  Calls Tryz.prog 38 #[v,u] w fun e w'=> ∃ (n:Nat) (G:List UInt8->List Rw),e = .returned (.map (some w.heap.size))/\v5X w' 74 w.heap.size (w.heap.size+1) n G/\(∀ s,its (G s)=z2K z ks s)/\(∀ s,j1T w (G s))/\n<=100/\Below w.heap.size w w':=by
 have ht:Tryz.prog.underlying 74=some (.map 9 35):=Tryz.underlying74;obtain ⟨i0,hi0,hz0,hz1,hz2⟩:=info_parts infoItem;have hrow:∀ k,k<z.length->z1R (z.getD k ([],0)).1=true/\(∀ q∈ks,0<=q/\q<((z.getD k ([],0)).1.length:Int)):=fun k hk=>⟨(j1S hz hk).1,fun q hq=>q2A.1 hkz q hq _ (by simp [List.getD,hk])⟩;have hz100:=v1B hz;have HC0:Hid (v5X (w.alloc (.map #[] 0)) 74 w.heap.size (w.heap.size+1) 0 (fun _=>[])):=k5W w _ ht;have HB0:Hid (Below w.heap.size w (w.alloc (.map #[] 0))):=z1C _;have HTAB:Hid (Tab w):=htab;have HK2:Hid (z1E w u ks):=h2;obtain ⟨ua,un,uc,rfl⟩:=h2.shape;clear htab h2 hz hkz;have hmm:=@run_makeMap Tryz.prog;rcases h.cases with ⟨a,cap,rfl,rfl⟩ | ⟨b,off,cap,hpos,hlim,rfl,hbw,hc⟩
 ·
  clear h hrow;go_enter Tryz.func38,Tryz.ntmps38;go_wp2;clear hmm;refine wp_loop_rounds 1 ?_;rw [rounds_succ];go_wp2;go_ret;exact ⟨0,_,rfl,HC0.out,fun _=>rfl,fun s x hx=>by simp at hx,by omega,HB0.out⟩
 ·
  clear h;obtain ⟨n,hn⟩:∃ n,n=z.length:=⟨_,rfl⟩;have HN:Hid (n=z.length):=hn;rw [<-hn] at hpos hlim hc hrow hz100 ⊢;clear hn;go_enter Tryz.func38,Tryz.ntmps38;go_wp2;clear hmm;go_loopw [12] (fun i wr=> ∃ (k m:Nat) (G:List UInt8->List Rw),k<=n/\m<=k/\i = .int .i64 k/\Hid (v5X wr 74 w.heap.size (w.heap.size+1) m G)/\Hid (∀ s,its (G s)=z2K (z.take k) ks s)/\Hid (∀ s,j1T w (G s))/\Hid (Below w.heap.size w wr)) (fun i _=>n - (intOf i).toNat)
  case atStart=>exact ⟨0,0,_,Nat.zero_le _,Nat.le_refl _,rfl,HC0.out,fun _=>rfl,fun s x hx=>by simp at hx,HB0.out⟩
  case round=>
   obtain ⟨k,m,G,hk,hmk,rfl,HC,HG,HR,HW⟩:=hrel;clear HC0 HB0;by_cases hlt:k<n
   ·
    have hlt':k<z.length:=by rw [<-HN.out]; exact hlt
    have HB:=HW.out;obtain ⟨rv,hrv0,hwt0,hix0⟩:=hc k hlt;have hrv:=(HB.cell (p:=⟨b,off+k*2,none⟩) hbw).trans hrv0;have hwt:=(HB.cell (p:=⟨b,off+k*2+1,none⟩) hbw).trans hwt0;have hix:=hix0.below HB;obtain ⟨hr1,hr2⟩:=hrow k hlt;have HT:Hid (∀ s,z2K (z.take (k+1)) ks s=_):=fun s=>j6J (ks:=ks) hlt' s;have hGl:∀ s,(G s).length<=100:=fun s=>by
     have h1:(its (G s)).length=(z2K (z.take k) ks s).length:=by rw [HG.out]
     have h2:=grpT_len (z.take k) ks s
     rw [q1E] at h1
     rw [List.length_take] at h2
     omega
    obtain ⟨x,HX⟩:∃ x,Hid (x=(z.getD k ([],0)).1):=⟨_,rfl⟩;obtain ⟨y,HY⟩:∃ y,Hid (y=(z.getD k ([],0)).2):=⟨_,rfl⟩;rw [<-HX.out] at hix hr1 hr2 HT hix0;rw [<-HY.out] at hwt HT;obtain ⟨xa,xn,xc,rfl⟩:=hix.shape;have HIX:Hid (z1E w (.slice xa xn xc) x):=hix0;obtain ⟨wa,hwa⟩:∃ wa,wa=wr.alloc (.cells #[.slice xa xn xc,.int .i64 y] 47):=⟨_,rfl⟩;have hba:Below wr.heap.size wr wa:=by rw [hwa]; exact z1C _
    have hbl:wr.heap.size<wa.heap.size:=by rw [hwa]; simp
    have t0:wa.cell? ⟨wr.heap.size,0,none⟩=some (.slice xa xn xc):=by rw [hwa]; simp [go_sem]
    have t1:wa.cell? ⟨wr.heap.size,1,none⟩=some (.int .i64 y):=by rw [hwa]; simp [go_sem]
    have hka:=z1D HB hba;have hsw:=HB.size;have hixa:=hix.below hba;have hCa:=HC.out.grown hba;clear hc hrow hrv0 hwt0 hix0;by_cases hy:0<y
    ·
     go_wp2_with fail;rw [<-hwa];refine (q4B _ _ x ks _ (HTAB.out.below hka) hixa (HK2.out.below hka) hr2 hl hr1).mono ?_;rintro e w2 ⟨s,rfl,hs,hb2⟩;have hk2:=z1D hka hb2;have hw2:=hk2.size;obtain ⟨sv,hlook,S2,hput⟩:=(hCa.grown hb2).look (tx_small hr1 hr2 hl hs) (by unfold maxLen; omega);rw [hs] at S2 hput;have hlook2:=hlook w2 (v1U _ _);have r0:=q1N (p:=⟨wr.heap.size,0,none⟩) hb2 hbl t0;have r1:=q1N (p:=⟨wr.heap.size,1,none⟩) hb2 hbl t1;obtain ⟨tx,HTX⟩:∃ tx,Hid (tx=rowTx (x1S x ks)):=⟨_,rfl⟩;rw [<-HTX.out] at S2 hput HT;have hls:w.heap.size+1<=w2.heap.size:=by have:=hb2.size; omega
     obtain ⟨hspW,hprW,hfin⟩:=x1N (xv:=.slice xa xn xc) y S2 ⟨_,_,_,rfl⟩ hls (by have:=hGl tx; omega);have hpl:(prs (G tx)).length<=100:=by rw [z1H]; exact hGl tx
     have HK2':Hid (Below w.heap.size w w2):=hk2;clear hrv hwt HB HW HC hba hka hb2 hk2 hs hixa hix hr1 hr2 hwa t0 t1 hCa hlook;go_wp2_with (at_builtin; (refine q3F rfl _ _ 35 rfl (w.heap.size+1) 47 i0 Tryz.underlying35 hi0 hz0 hz1 hz2 sv (prs (G tx)) rfl hspW _ _ _ [(.slice xa xn xc,y)] rfl hprW (by simp; omega) (by simp; omega) ?_; intro v3 w3 hown3 hg3 hat3; obtain ⟨S3,B3⟩:=hfin v3 w3 x hown3 hg3; obtain ⟨w4,hrun4,hC4,hg4⟩:=hput w3 v3 (G tx++[(.slice xa xn xc,(x,y))]) (by simp) (z1G (World.grownBy_alloc w2 _ _) hg3) S3 (hat3.elim Or.inl (fun e=>Or.inr ⟨_,e,by simp⟩))));have HC4:Hid (v5X w4 74 w.heap.size (w.heap.size+1) (m+1) (fun d=>if d=tx then G tx++[(.slice xa xn xc,(x,y))] else G d)):=hC4;have k3:Below w.heap.size w w3:=HK2'.out.trans (B3.mono (by omega));have HK4:Hid (Below w.heap.size w w4):=k3.grown hg4 k3.size (fun i e=>by simp at e; omega);have HG4:Hid (∀ d,its (if d=tx then G tx++[(.slice xa xn xc,(x,y))] else G d)=z2K (z.take (k+1)) ks d):=fun d=>by
      rw [HT.out d,decide_eq_true hy,Bool.true_and]
      by_cases hd:d=tx
      ·
       subst hd;rw [if_pos rfl,if_pos (decide_eq_true rfl),x1V,HG.out]; rfl
      ·
       rw [if_neg hd,if_neg (by simpa using fun e=>hd e.symm),HG.out,List.append_nil]
     have HR4:Hid (∀ d,j1T w (if d=tx then G tx++[(.slice xa xn xc,(x,y))] else G d)):=fun d=>by
      by_cases hd:d=tx
      ·
       rw [if_pos hd];intro q hq;rcases List.mem_append.1 hq with e | e
       ·
        exact HR.out tx q e
       ·
        simp at e; subst e; exact HIX.out
      ·
       rw [if_neg hd]; exact HR.out d
     clear hC4 k3 hg4 hfin hown3 hg3 hat3 hspW hprW B3 S3 S2 hput r0 r1 hlook2 HT HG HR;go_wp2;go_roundw
     case rel=>exact ⟨k+1,m+1,_,by omega,by omega,by go_num,HC4.out,HG4.out,HR4.out,HK4.out⟩
     case measure=>simp [intOf]; omega
    ·
     have HG4:Hid (∀ d,its (G d)=z2K (z.take (k+1)) ks d):=fun d=>by
      rw [HT.out d,decide_eq_false hy,Bool.false_and,HG.out]; simp
     have HC4:Hid (v5X wa 74 w.heap.size (w.heap.size+1) m G):=hCa;have HK4:Hid (Below w.heap.size w wa):=hka;clear hCa hka HT HG HB HW HC hba hix hixa hr1 hr2;go_wp2;rw [<-hwa];go_roundw
     case rel=>exact ⟨k+1,m,_,by omega,by omega,by go_num,HC4.out,HG4.out,HR.out,HK4.out⟩
     case measure=>simp [intOf]; omega
   ·
    obtain rfl:k=n:=by omega
    have hG:=HG.out;rw [HN.out,List.take_length] at hG;have HG9:Hid _:=hG;clear hc hrow hG;go_wp2;go_ret;exact ⟨m,G,rfl,HC.out,HG9.out,HR.out,by omega,HW.out⟩
end Go.Proofs.YtmjaepdplbgohaaGreatDoor
namespace Go.Proofs.YtmjaepdplbgohaaGreatDoor
open Go.RowKit
def v4D (z:List It) (ks:List Int) (agg:Int) (col:Nat) (s:List UInt8):List Int:=x1S ((z2K z ks s).getD 0 ([],0)).1 ks++[x4Z agg col (z2K z ks s)]
theorem j2J {z:List It} {ks:List Int} {s:List UInt8} {p:It}:p∈z2K z ks s<->p∈z/\0<p.2/\rowTx (x1S p.1 ks)=s:=by
 unfold z2K;rw [List.mem_filter];simp
theorem q6X {z:List It} {ks:List Int} (hz:q1G z=true) (hkz:j1I z ks=true) {p q:It} (hp:p∈z) (hq:q∈z) (h:rowTx (x1S p.1 ks)=rowTx (x1S q.1 ks)):x1S p.1 ks=x1S q.1 ks:=
 z6C (q2S (q3N hz hp).1 fun k hk=>q2A.1 hkz k hk p hp) (q2S (q3N hz hq).1 fun k hk=>q2A.1 hkz k hk q hq) (by rw [k1M,k1M]) h
theorem k4Y {z:List It} {ks:List Int} (hz:q1G z=true) (hkz:j1I z ks=true) {p:It} (hp:p∈z):z2K z ks (rowTx (x1S p.1 ks))=x3E z ks (x1S p.1 ks):=by
 unfold z2K x3E;refine List.filter_congr fun q hq=> ?_;congr 1;by_cases e:x1S q.1 ks=x1S p.1 ks
 ·
  rw [e]; simp
 ·
  rw [decide_eq_false e,decide_eq_false fun h=>e (q6X hz hkz hq hp h)]
theorem k2U {z:List It} {ks:List Int} {s:List UInt8} (h:z2K z ks s≠[]):(z2K z ks s).getD 0 ([],0)∈z2K z ks s:=by
 cases e:z2K z ks s with
 | nil=>exact absurd e h
 | cons p l=>simp
theorem q5Z {z:List It} {ks:List Int} {s:List UInt8} (h:z2K z ks s≠[]):rowTx (x1S ((z2K z ks s).getD 0 ([],0)).1 ks)=s:=(j2J.1 (k2U h)).2.2
theorem z6D {z:List It} {ks:List Int} (agg:Int) (col:Nat) (hz:q1G z=true) (hkz:j1I z ks=true) {p:It} (hp:p∈z) (hw:0<p.2):v4D z ks agg col (rowTx (x1S p.1 ks))=v2I z ks agg col p:=by
 have hm:p∈z2K z ks (rowTx (x1S p.1 ks)):=j2J.2 ⟨hp,hw,rfl⟩;have hne:z2K z ks (rowTx (x1S p.1 ks))≠[]:=fun e=>by rw [e] at hm; simp at hm
 have h0:=j2J.1 (k2U hne);unfold v4D v2I;rw [q6X hz hkz h0.1 hp h0.2.2,k4Y hz hkz hp]
theorem z3H {z:List It} {ks:List Int} {agg:Int} {col:Nat} (hz:q1G z=true) (hkz:j1I z ks=true) {s:List UInt8} (h:z2K z ks s≠[]):∃ p∈z,0<p.2/\rowTx (x1S p.1 ks)=s/\v4D z ks agg col s=v2I z ks agg col p/\z2K z ks s=x3E z ks (x1S p.1 ks):=by
 have h0:=j2J.1 (k2U h);have h1:=z6D agg col hz hkz h0.1 h0.2.1;have h2:=k4Y hz hkz h0.1;rw [h0.2.2] at h1 h2;exact ⟨_,h0.1,h0.2.1,h0.2.2,h1,h2⟩
theorem rowT_inj {z:List It} {ks:List Int} {agg:Int} {col:Nat} {s t:List UInt8} (hs:z2K z ks s≠[]) (ht:z2K z ks t≠[]) (h:v4D z ks agg col s=v4D z ks agg col t):s=t:=by
 unfold v4D at h;have:=(List.append_inj' h rfl).1;rw [<-q5Z hs,<-q5Z ht,this]
theorem texts_no {z:List It} {ks:List Int} {agg:Int} {col:Nat} (hz:q1G z=true) (hkz:j1I z ks=true) {s:List UInt8} (h:z2K z ks s≠[]) (hc:q1W (x4Z agg col (z2K z ks s))=false):k1I z ks agg col=false:=by
 obtain ⟨p,hp,hw,_,_,e⟩:=z3H (agg:=agg) (col:=col) hz hkz h;unfold k1I;rw [List.all_eq_false];refine ⟨p,hp,?_⟩;unfold v2D;rw [<-e,hc,decide_eq_false (by omega)]; decide
theorem k5L {z:List It} {ks:List Int} {agg:Int} {col:Nat} (hz:q1G z=true) (hkz:j1I z ks=true) {D:List (List UInt8)} (hD:∀ s,z2K z ks s≠[]->s∈D) (hc:∀ s∈D,q1W (x4Z agg col (z2K z ks s))=true):k1I z ks agg col=true:=by
 unfold k1I;rw [List.all_eq_true];intro p hp;unfold v2D;by_cases hw:p.2<0
 ·
  rw [decide_eq_true hw]; rfl
 ·
  have hnz:=z5R hz p hp;have hm:p∈z2K z ks (rowTx (x1S p.1 ks)):=j2J.2 ⟨hp,by omega,rfl⟩;have h1:=hc _ (hD (rowTx (x1S p.1 ks)) (fun e=>by rw [e] at hm; simp at hm));rw [k4Y hz hkz hp] at h1;rw [h1]; simp
theorem z6B {z:List It} {ks:List Int} {agg:Int} {col:Nat} (hz:q1G z=true) (hkz:j1I z ks=true) {D:List (List UInt8)} (hnd:D.Nodup) (hD:∀ s,s∈D<->z2K z ks s≠[]) {m:List It} (hp:(D.map fun s=>(v4D z ks agg col s,(1:Int))).Perm m) (ha:Asc m):m=k1R (v2I z ks agg col) z:=by
 have hG:=isG_to (v2I z ks agg col) z;have hrows:(D.map fun s=>(v4D z ks agg col s,(1:Int))).Pairwise fun p q=>p.1≠q.1:=by
  rw [List.pairwise_map];refine List.Pairwise.imp_of_mem ?_ hnd;intro s t hs ht hne e;exact hne (rowT_inj ((hD s).1 hs) ((hD t).1 ht) e)
 have hrm:m.Pairwise fun p q=>p.1≠q.1:=(hp.pairwise_iff (fun h e=>h e.symm)).1 hrows;have hsrt:Srt m:=by
  refine (List.pairwise_and_iff.2 ⟨ha,hrm⟩).imp ?_;intro p q h;exact z2N h.1 (fun e=>h.2 e.symm)
 have hone:∀ p∈m,p.2=1:=fun p hpm=>by
  obtain ⟨s,_,rfl⟩:=List.mem_map.1 (hp.symm.subset hpm)
  rfl
 refine canon hsrt (fun p hpm=>by rw [hone p hpm]; decide) hG.1 hG.2.1 fun q=> ?_;rw [hG.2.2];by_cases hq:∃ p∈m,p.1=q
 ·
  obtain ⟨p,hpm,rfl⟩:=hq;rw [getZ_ownG hsrt p hpm,hone p hpm];obtain ⟨s,hs,rfl⟩:=List.mem_map.1 (hp.symm.subset hpm);obtain ⟨x,hx,hw,_,e,_⟩:=z3H (agg:=agg) (col:=col) hz hkz ((hD s).1 hs);have:v5W (v2I z ks agg col) z (v4D z ks agg col s)=true:=by
   unfold v5W;rw [List.any_eq_true];exact ⟨x,hx,by rw [e]; simp; omega⟩
  rw [if_pos this]
 ·
  have:v5W (v2I z ks agg col) z q=false:=by
   cases hh:v5W (v2I z ks agg col) z q with
   | false=>rfl
   | true=>
    obtain ⟨p,hpz,h1,h2⟩:=q5T hh;have hnz:=z5R hz p hpz;have hw:0<p.2:=by omega
    have hm:p∈z2K z ks (rowTx (x1S p.1 ks)):=j2J.2 ⟨hpz,hw,rfl⟩;have hd:=(hD (rowTx (x1S p.1 ks))).2 (fun e=>by rw [e] at hm; simp at hm);refine absurd ⟨(v4D z ks agg col (rowTx (x1S p.1 ks)),1),hp.subset (List.mem_map.2 ⟨_,hd,rfl⟩),?_⟩ hq;rw [<-h2];exact z6D agg col hz hkz hpz hw
  rw [this,x2K fun p hpm e=>hq ⟨p,hpm,e⟩]; rfl
end Go.Proofs.YtmjaepdplbgohaaGreatDoor
namespace Go.Proofs.YtmjaepdplbgohaaGreatDoor
open Go.RowKit
attribute [local go_sem ↓] Go.wp_at_zero Go.wp_at_succ
theorem k4U (v:Value) (w:World):(Go.method 381 114 v "loop.example/milldam/impl.of").run Tryz.prog w = .ok (196,v) w:=by kernel_rfl
theorem j6B (v:Value) (w:World):(Go.method 381 115 v "loop.example/milldam/impl.of").run Tryz.prog w = .ok (197,v) w:=by kernel_rfl
theorem k4T (v:Value) (w:World):(Go.method 381 116 v "loop.example/milldam/impl.of").run Tryz.prog w = .ok (198,v) w:=by kernel_rfl
theorem v5D (v:Value) (w:World):(Go.method 381 117 v "loop.example/milldam/impl.of").run Tryz.prog w = .ok (199,v) w:=by kernel_rfl
def x6L (agg:Int) (tid:TypeId) (fn:Nat):Prop:=
 (∀ (v:Value) (w:World),(Go.method 381 tid v "loop.example/milldam/impl.of").run Tryz.prog w = .ok (fn,v) w)/\(∀ args w,(callFunc fn args).run Tryz.prog w = .ok (.enter fn args) w) ∧
  ∀ (u:Value) (g:List It) (col:Nat) (w:World),z1I w u g->q3Y g col->0<g.length->Calls Tryz.prog fn #[.agg #[],u,.int .i64 col] w fun e w'=>e = .returned (.int .i64 (x4Z agg col g))/\Below w.heap.size w w'
theorem v4J (agg:Int) (h:aggB agg=true):∃ tid fn,x6L agg tid fn/\∀ w:World,Calls Tryz.prog 35 #[.int .i64 agg] w fun e w'=>e = .returned (.tuple #[.iface tid (.agg #[]),.bool true])/\w=w':=by
 have h0:=of_decide_eq_true h;have hc:agg=0\/agg=1\/agg=2\/agg=3:=by omega
 clear h h0;rcases hc with rfl | rfl | rfl | rfl
 ·
  refine ⟨114,196,⟨k4U,enters_of Tryz.func196 (by kernel_rfl) rfl,fun u g col w h hf hp=>j6S u _ g col w h hf hp rfl⟩,fun w=> ?_⟩;go_enter Tryz.func35,Tryz.ntmps35;go_wp2;go_ret2;exact ⟨rfl,rfl⟩
 ·
  refine ⟨115,197,⟨j6B,enters_of Tryz.func197 (by kernel_rfl) rfl,fun u g col w h hf hp=>sum_any u _ g col w h hf hp rfl⟩,fun w=> ?_⟩;go_enter Tryz.func35,Tryz.ntmps35;go_wp2;go_ret2;exact ⟨rfl,rfl⟩
 ·
  refine ⟨116,198,⟨k4T,enters_of Tryz.func198 (by kernel_rfl) rfl,fun u g col w h hf hp=>q6O u _ g col w h hf hp rfl⟩,fun w=> ?_⟩;go_enter Tryz.func35,Tryz.ntmps35;go_wp2;go_ret2;exact ⟨rfl,rfl⟩
 ·
  refine ⟨117,199,⟨v5D,enters_of Tryz.func199 (by kernel_rfl) rfl,fun u g col w h hf hp=>most_any u _ g col w h hf hp rfl⟩,fun w=> ?_⟩;go_enter Tryz.func35,Tryz.ntmps35;go_wp2;go_ret2;exact ⟨rfl,rfl⟩
theorem j5Q (agg:Int) (w:World) (h:aggB agg=false):Calls Tryz.prog 35 #[.int .i64 agg] w fun e w'=>e = .returned (.tuple #[.nilIface,.bool false])/\w=w':=by
 have h0:=of_decide_eq_false h;have h1:(agg==0)=false:=by simp; omega
 have h2:(agg==1)=false:=by simp; omega
 have h3:(agg==2)=false:=by simp; omega
 have h4:(agg==3)=false:=by simp; omega
 clear h h0;go_enter Tryz.func35,Tryz.ntmps35;go_wp2;go_ret2;exact ⟨rfl,rfl⟩
theorem q3C (v u:Value) (z:List It) (ks:List Int) (col:Int) (w:World) (h:z1I w v z) (h2:z1E w u ks) :
  Calls Tryz.prog 37 #[v,u,.int .i64 col] w fun e w'=>e = .returned (.bool (j1I z ks&&j1P col z))/\Below w.heap.size w w':=by
 obtain ⟨c,HC⟩:∃ c,Hid (c=j1I z ks):=⟨_,rfl⟩;obtain ⟨d,HD⟩:∃ d,Hid (d=j1P col z):=⟨_,rfl⟩;rw [<-HC.out,<-HD.out];have HZ:Hid (z1I w v z):=h;go_enter Tryz.func37,Tryz.ntmps37;go_wp2_with fail;refine (x3P v u z ks _ h h2).mono ?_;rw [<-HC.out];rintro e w1 ⟨rfl,hb1⟩;have HB1:Hid (Below w.heap.size w w1):=hb1;clear h h2 hb1;cases c with
 | false=>
  go_wp2;go_ret;exact ⟨rfl,HB1.out⟩
 | true=>
  go_wp2_with fail;refine (j2N v z col _ (HZ.out.below HB1.out)).mono ?_;rw [<-HD.out];rintro e w2 ⟨rfl,hb2⟩;have HB2:Hid (Below w.heap.size w w2):=z1D HB1.out hb2;clear hb2 HB1;go_wp2;go_ret;exact ⟨rfl,HB2.out⟩
end Go.Proofs.YtmjaepdplbgohaaGreatDoor
namespace Go.Proofs.YtmjaepdplbgohaaGreatDoor
open Go.RowKit Go.Maps
attribute [local go_sem ↓] Go.wp_at_zero Go.wp_at_succ
def Got (D:DataW Value) (left:Lit->Bool) (ss:List (List UInt8)):Prop:=ss.Nodup/\(∀ s,left (.string s)=(has D (.string s)&&!decide (s∈ss)))/\∀ s∈ss,has D (.string s)=true
theorem j6K (D:DataW Value):Got D (has D) []:=⟨List.nodup_nil,fun s=>by simp,fun s hs=>by simp at hs⟩
theorem Got.step {D:DataW Value} {left:Lit->Bool} {ss:List (List UInt8)} (h:Got D left ss) {x:List UInt8} (hx:left (.string x)=true):Got D (fun z=>left z&&!z.sameKey (.string x)) (ss++[x]):=by
 have h0:=h.2.1 x;rw [hx] at h0;have h1:has D (.string x)=true/\x ∉ ss:=by
  have:=h0.symm;rw [Bool.and_eq_true] at this;exact ⟨this.1,by simpa using this.2⟩
 refine ⟨List.nodup_append.2 ⟨h.1,by simp,fun a ha b hb e=> ?_⟩,fun s=> ?_,fun s hs=> ?_⟩
 ·
  simp at hb;subst hb;exact h1.2 (by rw [<-e]; exact ha)
 ·
  show (left (.string s)&&!(Lit.string s).sameKey (.string x))=_;rw [h.2.1 s];by_cases e:s=x
  ·
   subst e; simp [Lit.sameKey]
  ·
   simp [Lit.sameKey,e]
 ·
  rcases List.mem_append.1 hs with e | e
  ·
   exact h.2.2 s e
  ·
   simp at e; rw [e]; exact h1.1
theorem Got.all {D:DataW Value} {left:Lit->Bool} {ss:List (List UInt8)} (h:Got D left ss) (hl:∀ kl,left kl=false) (s:List UInt8):s∈ss<->has D (.string s)=true:=by
 refine ⟨h.2.2 s,fun hs=> ?_⟩;have h0:=h.2.1 s;rw [hl,hs] at h0;simpa using h0
theorem z6H {H:Type} {P:Program} {k:TypeId} {R:Value->Option (DataW H × List MemPlace)} {w w':World} {b r n:Nat} {D:DataW H} {left:Lit->Bool} {cnt:Nat} (h:w.ranges P k R b r n D left cnt) (hb:w'.heap[b]? = w.heap[b]?) (hr:w'.heap[r]? = w.heap[r]?):w'.ranges P k R b r n D left cnt:=by
 obtain ⟨es,clock,since,seen,c0,h1,F,hs,hD,h2,rest⟩:=h;exact ⟨es,clock,since,seen,c0,hb.trans h1,F,hs,hD,hr.trans h2,rest⟩
theorem k4Z {a b c:World} {r:Option Nat} (h:a.grownBy b r) (hb:Below a.heap.size b c):a.grownBy c r:=
 ⟨hb.os.trans h.os,hb.tape.trans h.tape,hb.output.trans h.output,Nat.le_trans h.size hb.size,fun k hk hne=>(hb.block k hk).trans (h.block k hk hne)⟩
theorem v4O {w:World} {lo hi:Nat} {v:Value} {l:List Rw} (S:z1P w lo hi v (prs l)) (hr:j1T w l):z1I w v (its l):=by
 refine v2K (by simp [prs,its]) S fun j hj=> ?_;rw [z1H] at hj;have:=hr l[j] (List.getElem_mem hj);simpa [prs,its,List.getD,hj] using this
theorem q4A (v u:Value) (z:List It) (ks:List Int) (agg col:Int) (w:World) (htab:Tab w) (h:z1I w v z) (h2:v5V w u ks) :
  Calls Tryz.prog 13 #[v,u,.int .i64 agg,.int .i64 col] w fun e w'=> ∃ v',e = .returned (.tuple #[v',.bool (k1E z ks agg col)])/\z1V w' w.heap.size w'.heap.size v' (z2R z ks agg col)/\Below w.heap.size w w':=by
 obtain ⟨i0,hi0,hz0,hz1,hz2⟩:=info_parts infoItem;obtain ⟨i1,hi1,hj0,hj1,hj2⟩:=info_parts infoInt;have hnot:k1Y z ks agg col=false->k1E z ks agg col=false/\z2R z ks agg col=[]:=fun e=>by
  have:k1E z ks agg col=false:=by unfold k1E; rw [e]; rfl
  exact ⟨this,v2T this⟩
 obtain ⟨ua,un,uc,rfl⟩:=h2.1.shape;cases ha:aggB agg with
 | false=>
  obtain ⟨e0,e1⟩:=hnot (by unfold k1Y; rw [ha]; simp);rw [e0,e1];clear hnot e0 e1 h2 htab;go_enter Tryz.func13,Tryz.ntmps13;go_wp2_with fail;refine (j5Q agg _ ha).mono ?_;rintro e w0 ⟨rfl,rfl⟩;go_wp2_with fail;refine (z1O v z _ h).mono ?_;rintro e w1 ⟨rfl,hb1⟩;clear h;cases q1G z with
  | false=>
   go_wp2;go_ret2;exact ⟨_,rfl,q1D _ _,hb1⟩
  | true=>
   go_wp2;go_ret2;exact ⟨_,rfl,q1D _ _,hb1⟩
 | true=>
 obtain ⟨tid,fn,htot,htof⟩:=v4J agg ha;cases hz:q1G z with
 | false=>
  obtain ⟨e0,e1⟩:=hnot (by unfold k1Y; rw [hz]; simp);rw [e0,e1];clear hnot e0 e1 h2 htab htot;go_enter Tryz.func13,Tryz.ntmps13;go_wp2_with fail;refine (htof _).mono ?_;rintro e w0 ⟨rfl,rfl⟩;clear htof;go_wp2_with fail;refine (z1O v z _ h).mono ?_;rw [hz];rintro e w1 ⟨rfl,hb1⟩;clear h;go_wp2;go_ret2;exact ⟨_,rfl,q1D _ _,hb1⟩
 | true=>
 cases hk6:v1N ks 6 with
 | false=>
  obtain ⟨e0,e1⟩:=hnot (by unfold k1Y; rw [hk6]; simp);rw [e0,e1];clear hnot e0 e1 htab htot;go_enter Tryz.func13,Tryz.ntmps13;go_wp2_with fail;refine (htof _).mono ?_;rintro e w0 ⟨rfl,rfl⟩;clear htof;go_wp2_with fail;refine (z1O v z _ h).mono ?_;rw [hz];rintro e w1 ⟨rfl,hb1⟩;go_wp2_with fail;refine (j2M _ ks 6 _ (h2.below hb1)).mono ?_;rw [hk6];rintro e w2 ⟨rfl,rfl⟩;clear h h2;go_wp2;go_ret2;exact ⟨_,rfl,q1D _ _,hb1⟩
 | true=>
 cases hcg:(j1I z ks&&j1P col z) with
 | false=>
  obtain ⟨e0,e1⟩:=hnot (by unfold k1Y; rw [hcg]; simp);rw [e0,e1];clear hnot e0 e1 htab htot;go_enter Tryz.func13,Tryz.ntmps13;go_wp2_with fail;refine (htof _).mono ?_;rintro e w0 ⟨rfl,rfl⟩;clear htof;go_wp2_with fail;refine (z1O v z _ h).mono ?_;rw [hz];rintro e w1 ⟨rfl,hb1⟩;go_wp2_with fail;refine (j2M _ ks 6 _ (h2.below hb1)).mono ?_;rw [hk6];rintro e w2 ⟨rfl,rfl⟩;go_wp2_with fail;refine (q3C v _ z ks col _ (h.below hb1) (h2.below hb1).1).mono ?_;rw [hcg];rintro e w2 ⟨rfl,hb2⟩;have HK:Hid (Below w.heap.size w w2):=z1D hb1 hb2;clear h h2 hb1 hb2;go_wp2;go_ret2;exact ⟨_,rfl,q1D _ _,HK.out⟩
 | true=>
 have hcan:k1Y z ks agg col=true:=by unfold k1Y; rw [hz,ha,hk6,hcg]; rfl
 have hkz:j1I z ks=true:=(Bool.and_eq_true _ _ ▸ hcg).1;have hcz:j1P col z=true:=(Bool.and_eq_true _ _ ▸ hcg).2;have hk5:=(x2Y hk6).1;obtain ⟨cn,HCN⟩:∃ cn,Hid (cn=col.toNat):=⟨_,rfl⟩;obtain ⟨os,HO⟩:∃ os,Hid (os=z2R z ks agg col):=⟨_,rfl⟩;obtain ⟨d,HD⟩:∃ d,Hid (d=k1E z ks agg col):=⟨_,rfl⟩;have HYES:Hid (k1I z ks agg cn=true->d=true/\os=k1R (v2I z ks agg cn) z):=fun e=>by
  rw [HCN.out] at e ⊢
  have e0:k1E z ks agg col=true:=by unfold k1E; rw [hcan,e]; rfl
  exact ⟨HD.out.trans e0,by rw [HO.out]; unfold z2R; rw [e0]; rfl⟩
 have HNO:Hid (k1I z ks agg cn=false->d=false/\os=[]):=fun e=>by
  rw [HCN.out] at e
  have e0:k1E z ks agg col=false:=by unfold k1E; rw [e,Bool.and_false]
  exact ⟨HD.out.trans e0,HO.out.trans (v2T e0)⟩
 rw [<-HO.out,<-HD.out];clear hnot hcan;go_enter Tryz.func13,Tryz.ntmps13;go_wp2_with fail;refine (htof _).mono ?_;rintro e w0 ⟨rfl,rfl⟩;clear htof;go_wp2_with fail;refine (z1O v z _ h).mono ?_;rw [hz];rintro e w1 ⟨rfl,hb1⟩;go_wp2_with fail;refine (j2M _ ks 6 _ (h2.below hb1)).mono ?_;rw [hk6];rintro e w1' ⟨rfl,hw1⟩;obtain rfl:=hw1.symm;go_wp2_with fail;refine (q3C v _ z ks col _ (h.below hb1) (h2.below hb1).1).mono ?_;rw [hcg];rintro e w2 ⟨rfl,hb2⟩;have hk2:=z1D hb1 hb2;go_wp2_with fail;refine (v5P v _ z ks _ (htab.below hk2) (h.below hk2) (h2.below hk2).1 hz hkz (by omega)).mono ?_;rintro e w3 ⟨n,G,rfl,⟨D,V,hm1,hm2,hm3,hm4,hm5,hm6,hm7⟩,hG,hR,hn100,hb3⟩;have hk3:=z1D hk2 hb3;have HK2:Hid (z1E w (.slice ua un uc) ks):=h2.1;have HR:Hid (∀ s,j1T w2 (G s)):=hR;have HG:Hid (∀ s,its (G s)=z2K z ks s):=hG;have HV:Hid (∀ c,D.atKey (.string c) (.held vn) = .held (V c)):=hm2;have HH:Hid (∀ c,has D (.string c) = !(G c).isEmpty):=hm7;have HS3:Hid (∀ c,z1P w3 (w2.heap.size+1) w3.heap.size (V c) (prs (G c))):=hm3;have HB3:Hid (Below w2.heap.size w2 w3):=hb3;have HB2:Hid (Below w.heap.size w w2):=hk2;have HZ:Hid (q1G z=true):=hz;have HKZ:Hid (j1I z ks=true):=hkz;have HCZ:Hid (j1P col z=true):=hcz;have HTOT:Hid (x6L agg tid fn):=htot;have hmt:=htot.1;have hen0:=htot.2.1;have hszD:=hm1.size_le;have hmb:w2.heap.size<w3.heap.size:=by have:=hm1.lt; exact this
 have hs32:=hb3.size;have hs2w:=hk2.size;have K:Keyed Tryz.prog 9:=string_keyed Tryz.underlying9;clear h h2 hb1 hb2 hk2 htab hG hR hm2 hm3 hm4 hm7 hz hkz hcz hcg hk6 hb3 hk3 htot ha;go_wp2_with (first
  | (at_range; go_loud (refine wpList_range_own _ rfl _ 74 rfl 9 35 K hm6 _ w2.heap.size n D rfl hm1 ?_; intro w0 hrg0 hg0 hs0))
  | go_in)
 go_frame;have HB0:Hid (Below w2.heap.size w2 w0):=HB3.out.grown hg0 hs32 (fun j hj=>by cases hj);have HS0:Hid (∀ c,z1P w0 (w2.heap.size+1) w3.heap.size (V c) (prs (G c))):=fun c=>(HS3.out c).kept hg0 (by cases (V c).ownBlock <;> simp);have HRG0:Hid (w0.ranges Tryz.prog 9 v3L w2.heap.size w3.heap.size n D (has D) (Maps.size D)):=hrg0;have HM1:Hid (w3.ownsMap Tryz.prog 9 v3L w2.heap.size n D):=hm1;have HW0:Hid (Below w.heap.size w w0):=HB2.out.trans (HB0.out.mono hs2w);clear hrg0 hg0 HB3 HS3 hm1 hm6 hm5;go_loopw [12] (fun s wr=> ∃ (left:Lit->Bool) (cnt:Nat) (ss:List (List UInt8)),Hid (wr.ranges Tryz.prog 9 v3L w2.heap.size w3.heap.size n D left cnt)/\Hid (Got D left ss)/\ss.length+cnt<=100/\Hid (z1V wr w0.heap.size wr.heap.size s (ss.map fun s=>(v4D z ks agg cn s,(1:Int))))/\Hid (w0.grownBy wr (some w3.heap.size))/\Hid (∀ s∈ss,q1W (x4Z agg cn (z2K z ks s))=true))
  (fun _ wr=>wr.rangeLeft w2.heap.size w3.heap.size)
 case atStart=>exact ⟨_,_,[],HRG0.out,j6K D,by simp; omega,q1D _ _,v1U _ _,fun s hs=>by simp at hs⟩
 case round=>
  obtain ⟨left,cnt,ss,HRG,HGOT,hlen,HT,HGR,HCE⟩:=hrel;clear HRG0;have hrg:=HRG.out;go_wp2_with (first
   | (at_next; go_loud (refine wpList_next_ranges _ rfl _ rfl 9 K v3L Value.string id (fun key kl hk=>by obtain ⟨x,hx,_⟩:=Go.WideMaps.string_of_keyOf Tryz.underlying9 hk; exact ⟨x,hx⟩) (fun v y _=>⟨v,rfl⟩) w2.heap.size w3.heap.size n D left cnt rfl hrg ?_ ?_))
   | go_in)
  ·
   intro hc0 hl0;have hD:∀ s,s∈ss<->z2K z ks s≠[]:=fun s=>by
    rw [HGOT.out.all hl0 s,HH.out s,<-HG.out s]
    cases G s with
    | nil=>simp [its]
    | cons a l=>simp [its]
   have htold:=k5L HZ.out HKZ.out (fun s hs=>(hD s).2 hs) HCE.out;obtain ⟨hd,hos⟩:=HYES.out htold;obtain ⟨l,hl,S,R,AP⟩:=HT.out.opened;have hll:l.length<=100:=by
    have:=congrArg List.length hl;rw [q1E,List.length_map] at this;omega
   have HEND:Hid (∀ l':List Rw,l.Perm l'->Asc (its l')->its l'=os):=fun l' hp ha=>by
    rw [hos]
    exact z6B HZ.out HKZ.out HGOT.out.1 hD (by rw [hl]; exact hp.map _) ha
   have hszr:=HGR.out.size;have HBR:Hid (Below w.heap.size w wr):=HW0.out.grown HGR.out (by omega) (fun k hk=>by simp at hk; omega);subst hd;clear hrg hos htold hD hl0 hc0 hl HRG;go_wp2_with fail;refine (z5W u12 w0.heap.size wr.heap.size l _ S R (by omega)).mono ?_;rintro e w4 ⟨rfl,l',hp,hasc,S1,R1,O1⟩;have HZ4:Hid (z1V w4 w.heap.size w4.heap.size u12 os):=by
    rw [Hid,<-HEND.out l' hp hasc];exact (z1V.closed S1 R1 (k3P AP hp)).wide (by omega) O1.size (Nat.le_refl _)
   have HB4:Hid (Below w.heap.size w w4):=O1.below HBR.out (by omega) (by omega);clear S R AP S1 R1 O1 hp hasc HEND;go_wp2;go_ret2;exact ⟨_,rfl,HZ4.out,HB4.out⟩
  ·
   intro x c kl y yb w4 cnt1 hkey hleft hRc hat hrg4 hlt hg4 hs4 hen;obtain ⟨x',hx',hkl,hxs⟩:=Go.WideMaps.string_of_keyOf Tryz.underlying9 hkey;obtain ⟨s,hsx⟩:∃ s,s=x.data.toList:=⟨_,rfl⟩;have ex:x'=x:=by injection hx' with e; exact e.symm
   rw [ex,<-hsx] at hkl;have hcV:c=V s:=by
    have h1:=hat (.held vn);rw [hkl,HV.out s] at h1;unfold v3L at hRc;injection hRc with h2;injection h2 with h2 _;rw [<-h2] at h1;injection h1 with h1;exact h1.symm
   subst hkl;have hgot:=HGOT.out.2.1 s;rw [hleft] at hgot;have hhas:has D (.string s)=true:=by
    have:=hgot.symm;rw [Bool.and_eq_true] at this;exact this.1
   have hTne:z2K z ks s≠[]:=fun e=>by
    have h1:=HH.out s
    have h2:=HG.out s
    rw [e] at h2
    rw [hhas] at h1
    cases hg:G s with
    | nil=>rw [hg] at h1; simp at h1
    | cons a l=>rw [hg] at h2; simp [its] at h2
   have HGOT2:Hid (Got D (fun z=>left z&&!z.sameKey (.string s)) (ss++[s])):=HGOT.out.step hleft;obtain ⟨p,hp,hw,_,hrt,hgz⟩:=z3H (agg:=agg) (col:=cn) HZ.out HKZ.out hTne;have hc0:0<=col:=(z3P.1 HCZ.out p hp).1;have hcc:((cn:Nat):Int)=col:=by rw [HCN.out]; omega
   have hfine:q3Y (z2K z ks s) cn:=by rw [hgz]; exact q5U HZ.out (by rw [hcc]; exact HCZ.out) ks _
   have hszr:=HGR.out.size;have hgr4:w0.grownBy w4 (some w3.heap.size):=z1G HGR.out hg4;have hw4:Below w.heap.size w w4:=HW0.out.grown hgr4 (by omega) (fun k hk=>by simp at hk; omega);have hw42:Below w2.heap.size w2 w4:=HB0.out.grown hgr4 (by omega) (fun k hk=>by simp at hk; omega);have S4:z1P w4 (w2.heap.size+1) w3.heap.size (V s) (prs (G s)):=(HS0.out s).kept hgr4 (by
    cases ho:(V s).ownBlock with
    | none=>exact .inl rfl
    | some k=>
     have:=(HS0.out s).2.1 k ho
     exact .inr (fun e=>by simp at e; omega))
   have IA:z1I w4 c (z2K z ks s):=by rw [<-HG.out s,hcV]; exact v4O S4 ((HR.out s).below hw42)
   have hfirst:=k2U hTne;have hfz:=(j2J.1 hfirst).1;have hkk:∀ k∈ks,0<=k/\k<((((z2K z ks s).getD 0 ([],0)).1.length:Nat):Int):=fun k hk=>q2A.1 HKZ.out k hk _ hfz;have htno:=texts_no (agg:=agg) (col:=cn) HZ.out HKZ.out hTne;have HROW:Hid (v4D z ks agg cn s=x1S ((z2K z ks s).getD 0 ([],0)).1 ks++[x4Z agg cn (z2K z ks s)]):=rfl;have HRG4:Hid (w4.ranges Tryz.prog 9 v3L w2.heap.size w3.heap.size n D (fun z=>left z&&!z.sameKey (.string s)) cnt1):=hrg4;have HG4:Hid (w0.grownBy w4 (some w3.heap.size)):=hgr4;have HW4:Hid (Below w.heap.size w w4):=hw4;have HT4:Hid (z1V w4 w0.heap.size wr.heap.size u12 (ss.map fun s=>(v4D z ks agg cn s,(1:Int)))):=HT.out.only (lo:=w3.heap.size) (hi:=w3.heap.size+1) (Only.of_grown hg4 (fun k hk=>by simp at hk; omega)) (.inr (by omega));have HLT:Hid (cnt1<cnt):=hlt;clear hat hRc hkey hx' hcV hgot hhas hfirst hfz hgz hrt hp hw S4 hw42 hgr4 hrg4 hg4 hsx ex hxs HT hleft;have HCE2:Hid (q1W (x4Z agg cn (z2K z ks s))=true->∀ t∈ss++[s],q1W (x4Z agg cn (z2K z ks t))=true):=fun e t ht=>by
    rcases List.mem_append.1 ht with h1 | h1
    ·
     exact HCE.out t h1
    ·
     simp at h1; rw [h1]; exact e
   obtain ⟨gt,HGT⟩:∃ gt,Hid (gt=z2K z ks s):=⟨_,rfl⟩;rw [<-HGT.out] at IA hfine hkk htno HROW HCE2 hTne;rcases IA.cases with ⟨a,cap,rfl,hnil⟩ | ⟨b,off,cap,hpos,hlim,rfl,hbw,hcell⟩
   ·
    exact absurd rfl hTne
   clear hTne;have hcall:=HTOT.out.2.2 _ gt cn w4 IA hfine hpos;rw [hcc] at hcall;obtain ⟨rv,c0,_,hix0⟩:=hcell 0 hpos;obtain ⟨nv,HNV⟩:∃ nv,Hid (nv=x4Z agg cn gt):=⟨_,rfl⟩;rw [<-HNV.out] at hcall htno HROW HCE2;obtain ⟨x0,HX0⟩:∃ x0,Hid (x0=(gt.getD 0 ([],0)).1):=⟨_,rfl⟩;rw [<-HX0.out] at hix0 hkk HROW;clear IA hfine hcell;go_wp2_with fail;refine hcall.mono ?_;rintro e w5 ⟨rfl,hb5⟩;have hk5w:=z1D HW4.out hb5;have c05:=(hb5.cell (p:=⟨b,off+0*2,none⟩) hbw).trans c0;rw [Nat.zero_mul,Nat.add_zero] at c05;have hix5:=hix0.below hb5;have HT5:Hid (z1V w5 w0.heap.size wr.heap.size u12 (ss.map fun s=>(v4D z ks agg cn s,(1:Int)))):=HT4.out.keep' hb5;have HB5:Hid (Below w4.heap.size w4 w5):=hb5;have hs5:=hb5.size;have hbw5:b<w5.heap.size:=by omega
   have hposi:(0:Int)<(gt.length:Int):=by omega
   obtain ⟨m,HM⟩:∃ m,Hid (m=gt.length):=⟨_,rfl⟩;rw [<-HM.out] at hpos hlim hposi ⊢;clear hcall c0 hix0 hb5 hmt hen0 hen hrg;go_wp2_with fail;refine (v1V nv _).mono ?_;rintro e w5' ⟨rfl,hw5⟩;obtain rfl:=hw5.symm;cases hcb:q1W nv with
   | false=>
    obtain ⟨hd,hos⟩:=HNO.out (htno hcb);have HK:Hid (Below w.heap.size w w5):=hk5w;subst hd hos;clear hcb htno hix5 c05 hk5w;go_wp2;go_ret2;exact ⟨_,rfl,q1D _ _,HK.out⟩
   | true=>
    have HCE3:=HCE2.out hcb;have HCE4:Hid (∀ t∈ss++[s],q1W (x4Z agg cn (z2K z ks t))=true):=HCE3;obtain ⟨ra,rn,rc,rfl⟩:=hix5.shape;have hku:=HK2.out.below hk5w;clear htno HCE3 HCE2 hk5w;go_wp2_with fail;refine (x3N _ _ x0 ks _ hix5 hku hkk (by omega)).mono ?_;rintro e w6 ⟨v6,rfl,O6,hb6⟩;have hs6:=hb6.size;have hO6:=O6.keep' (z1C (w:=w6) (.cells #[.int .i64 nv] 3));have hkl6:(x1S x0 ks).length<=6:=by rw [k1M]; omega
    have HB6:Hid (Below w5.heap.size w5 w6):=hb6;clear hix5 hku c05 hb6 O6 hkk hcb;have hb67:Below w5.heap.size w5 (w6.alloc (.cells #[.int .i64 nv] 3)):=HB6.out.trans ((z1C (w:=w6) (.cells #[.int .i64 nv] 3)).mono hs6);have hs67:w5.heap.size<=(w6.alloc (.cells #[.int .i64 nv] 3)).heap.size:=by simp; omega
    have key7:∀ v7 w7,w7.ownsRow w5.heap.size 3 1 v7 (x1S x0 ks++[nv]).length ((x1S x0 ks++[nv]).map (Value.int .i64))->(w6.alloc (.cells #[.int .i64 nv] 3)).grownBy w7 v6.ownBlock->Own w7 w5.heap.size w7.heap.size v7 (v4D z ks agg cn s)/\Below w5.heap.size w5 w7:=fun v7 w7 hown7 hg7=>by
     rw [HROW.out]
     exact ⟨x1Y (xs:=x1S x0 ks++[nv]) (by simpa using hown7) (by simp; omega),hb67.grown hg7 hs67 (fun i hi'=>(hO6.1.lt i hi').1)⟩
    have HK7:Hid _:=key7;clear hb67 key7;go_wp2_with (first
     | (at_builtin; refine z1Q rfl _ _ 28 rfl w5.heap.size 3 i1 Tryz.underlying28 hi1 hj0 hj1 hj2 v6 _ _ rfl hO6.1 _ [nv] rfl (q3T w6 nv) (by simp; omega) (by simp; omega) ?_; intro v7 w7 hown7 hg7 _; obtain ⟨O7,hb7⟩:=HK7.out v7 w7 (by simpa using hown7) hg7; have hs7:=hb7.size; obtain ⟨ra7,rn7,rc7,rfl⟩:=O7.ints.shape; obtain ⟨ps,hpsl,hspW,hprW,hfin⟩:=(HT5.out.keep' hb7).ready 1 O7 (by omega) (by omega) (by omega) (by simp; omega); have hpl2:ps.length<=100:=by (rw [hpsl,List.length_map]; omega))
     | (at_builtin; go_loud (refine z1K rfl _ _ 35 rfl w0.heap.size 47 i0 Tryz.underlying35 hi0 hz0 hz1 hz2 u12 ps rfl hspW _ _ rfl hprW (by simp; omega) (by simp; omega) ?_; intro v8 w8 hown8 hg8 _)))
    obtain ⟨Z8,B8⟩:=hfin v8 w8 hown8 hg8;have HZ8:Hid (z1V w8 w0.heap.size w8.heap.size v8 ((ss++[s]).map fun s=>(v4D z ks agg cn s,(1:Int)))):=by rw [Hid,List.map_append]; exact Z8
    have hB48:Below w0.heap.size w4 w8:=(HB5.out.mono (by omega)).trans ((hb7.mono (by omega)).trans B8);have HG8:Hid (w0.grownBy w8 (some w3.heap.size)):=k4Z HG4.out hB48;have HRG8:Hid (w8.ranges Tryz.prog 9 v3L w2.heap.size w3.heap.size n D (fun z=>left z&&!z.sameKey (.string s)) cnt1):=z6H HRG4.out (hB48.block _ (by omega)) (hB48.block _ (by omega));clear hfin hown8 hg8 hspW hprW Z8 B8 hB48 O7 hb7 hO6 hown7 hg7 HK7;go_wp2;go_roundw
    case rel=>exact ⟨_,cnt1,ss++[s],HRG8.out,HGOT2.out,by have:=HLT.out; simp; omega,HZ8.out,HG8.out,HCE4.out⟩
    case measure=>rw [HRG8.out.left_eq,HRG.out.left_eq]; exact HLT.out
end Go.Proofs.YtmjaepdplbgohaaGreatDoor
