/- Part of the proof of laws.FnMean: RowOk, Order, OrderFacts, Items, OwnZ, Clone, Step, ZOk, ZSame, ZGet, PutMath, Join. -/
import Derived.Test.YtmjaepdplbgohaaGreatDoorPkA
import Derived.WalkLawsBesides
import Derived.Laws.AppendOwnNone
import Derived.Lib.SliceRun
import Derived.Deep.RegionLaw
import Derived.Laws.BitsLemmas
set_option maxRecDepth 100000
set_option maxHeartbeats 16000000
set_option linter.unusedVariables false
set_option linter.unusedSimpArgs false
namespace Go.Proofs.YtmjaepdplbgohaaGreatDoor
open Go.RowKit
theorem x4W {n:Int} (h1 : -1000000000<=n) (h2:n<=1000000000):q1W n=true:=by simp [q1W,h1,h2]
theorem q3U {n:Int} (h:¬ (-1000000000<=n/\n<=1000000000)):q1W n=false:=by simp only [q1W,h,decide_false]
theorem q1U (n:Int) (w:World):Calls Tryz.prog 118 #[.int .i64 n] w fun e w'=>e = .returned (.bool (q1W n))/\w'=w:=by
 by_cases h1 : -1000000000<=n
 ·
  by_cases h2:n<=1000000000
  ·
   go_enter Tryz.func118,Tryz.ntmps118;go_wp2;go_ret;exact ⟨z1N (x4W h1 h2).symm,rfl⟩
  ·
   go_enter Tryz.func118,Tryz.ntmps118;go_wp2;go_ret;exact ⟨z1N (q3U (by omega)).symm,rfl⟩
 ·
  go_enter Tryz.func118,Tryz.ntmps118;go_wp2;go_ret;exact ⟨z1N (q3U (by omega)).symm,rfl⟩
theorem v1V (n:Int) (w:World):Calls Tryz.prog 39 #[.int .i64 n] w fun e w'=>e = .returned (.bool (q1W n))/\w'=w:=by
 by_cases h1 : -1000000000<=n
 ·
  by_cases h2:n<=1000000000
  ·
   go_enter Tryz.func39,Tryz.ntmps39;go_wp2;go_ret;exact ⟨z1N (x4W h1 h2).symm,rfl⟩
  ·
   go_enter Tryz.func39,Tryz.ntmps39;go_wp2;go_ret;exact ⟨z1N (q3U (by omega)).symm,rfl⟩
 ·
  go_enter Tryz.func39,Tryz.ntmps39;go_wp2;go_ret;exact ⟨z1N (q3U (by omega)).symm,rfl⟩
theorem j5F {xs:List Int} {k:Nat} (hk:k<xs.length) (h:(xs.take k).all q1W=true) (hc:q1W (xs.getD k 0)=true):(xs.take (k+1)).all q1W=true:=by
 rw [List.take_succ_eq_append_getElem hk,List.all_append,h];simpa [List.getD,hk] using hc
theorem j5H {xs:List Int} {k:Nat} (hk:k<xs.length) (hc:q1W (xs.getD k 0)=false):z1R xs=false:=by
 have h:xs.all q1W=false:=by
  rw [List.all_eq_false];exact ⟨xs[k],List.getElem_mem hk,by simpa [List.getD,hk] using hc⟩
 simp [z1R,h]
theorem ok_all {xs:List Int} (h1:1<=xs.length) (h6:xs.length<=6) (h:(xs.take xs.length).all q1W=true):z1R xs=true:=by
 rw [List.take_length] at h;simp [z1R,h1,h6,h]
theorem z6S {xs:List Int} (h6:¬ xs.length<=6):z1R xs=false:=by simp [z1R,h6]
theorem x3W (b off cap:Nat) (xs:List Int) (w:World) (hpos:0<xs.length) (hlim:xs.length<=140737488355328)
  (hc:∀ j,j<xs.length->w.cell? ⟨b,off+j,none⟩=some (.int .i64 (xs.getD j 0))) :
  Calls Tryz.prog 148 #[.slice (some ⟨b,off,none⟩) xs.length cap] w fun e w'=>e = .returned (.bool (z1R xs))/\w'=w:=by
 obtain ⟨n,hn⟩:∃ n,n=xs.length:=⟨_,rfl⟩;have HN:Hid (n=xs.length):=hn;rw [<-hn] at hpos hlim hc ⊢;clear hn;go_enter Tryz.func148,Tryz.ntmps148;go_wp2;go_loop [3] (fun i=> ∃ k:Nat,k<=n/\i = .int .i64 k/\Hid ((xs.take k).all q1W=true)) (fun i=>n - (intOf i).toNat)
 case atStart=>exact ⟨0,Nat.zero_le _,rfl,by simp [Hid]⟩
 case round=>
  obtain ⟨k,hk,rfl,hall⟩:=hrel;by_cases hlt:k<n
  ·
   have hx:=hc k hlt;clear hc;obtain ⟨x,HX⟩:∃ x,Hid (x=xs.getD k 0):=⟨_,rfl⟩;rw [<-HX.out] at hx;cases hcb:q1W x with
   | true=>
    go_wp2_with (go_at_call 118; refine (q1U _ _).mono ?_; rintro e w' ⟨rfl,rfl⟩);go_round
    case rel=>exact ⟨k+1,by omega,by go_num,j5F (by rw [<-HN.out]; exact hlt) hall.out (by rw [<-HX.out]; exact hcb)⟩
    case measure=>simp [intOf]; omega
   | false=>
    go_wp2_with (go_at_call 118; refine (q1U _ _).mono ?_; rintro e w' ⟨rfl,rfl⟩);go_ret;exact ⟨z1N (j5H (by rw [<-HN.out]; exact hlt) (by rw [<-HX.out]; exact hcb)).symm,rfl⟩
  ·
   have e:k=n:=by omega
   subst e;by_cases h6:k<=6
   ·
    go_wp2;go_ret;exact ⟨z1N ((decide_eq_true (by omega)).trans (ok_all (by rw [<-HN.out]; omega) (by rw [<-HN.out]; omega) (by rw [<-HN.out]; exact hall.out)).symm),rfl⟩
   ·
    go_wp2;go_ret;exact ⟨z1N ((decide_eq_false (by omega)).trans (z6S (by rw [<-HN.out]; omega)).symm),rfl⟩
theorem x3X (a:Option Addr) (cap:Nat) (w:World) :
  Calls Tryz.prog 148 #[.slice a 0 cap] w fun e w'=>e = .returned (.bool (z1R []))/\w'=w:=by
 go_enter Tryz.func148,Tryz.ntmps148;go_wp2;refine wp_loop_rounds 1 ?_;rw [rounds_succ];go_wp2;go_ret;exact ⟨rfl,rfl⟩
theorem q1B (v:Value) (xs:List Int) (w:World) (h:z1E w v xs) :
  Calls Tryz.prog 148 #[v] w fun e w'=>e = .returned (.bool (z1R xs))/\w'=w:=by
 rcases h.cases with ⟨a,cap,rfl,rfl⟩ | ⟨b,off,cap,hpos,hlim,rfl,hbw,hc⟩
 ·
  exact x3X a cap w
 ·
  exact x3W b off cap xs w hpos hlim hc
theorem v3I (b off cap:Nat) (xs:List Int) (w:World) (hpos:0<xs.length) (hlim:xs.length<=140737488355328)
  (hc:∀ j,j<xs.length->w.cell? ⟨b,off+j,none⟩=some (.int .i64 (xs.getD j 0))) :
  Calls Tryz.prog 47 #[.slice (some ⟨b,off,none⟩) xs.length cap] w fun e w'=>e = .returned (.bool (z1R xs))/\w'=w:=by
 obtain ⟨n,hn⟩:∃ n,n=xs.length:=⟨_,rfl⟩;have HN:Hid (n=xs.length):=hn;rw [<-hn] at hpos hlim hc ⊢;clear hn;by_cases h6:n<=6
 ·
  go_enter Tryz.func47,Tryz.ntmps47;go_wp2;go_loop [15] (fun i=> ∃ k:Nat,k<=n/\i = .int .i64 k/\Hid ((xs.take k).all q1W=true)) (fun i=>n - (intOf i).toNat)
  case atStart=>exact ⟨0,Nat.zero_le _,rfl,by simp [Hid]⟩
  case round=>
   obtain ⟨k,hk,rfl,hall⟩:=hrel;by_cases hlt:k<n
   ·
    have hx:=hc k hlt;clear hc;obtain ⟨x,HX⟩:∃ x,Hid (x=xs.getD k 0):=⟨_,rfl⟩;rw [<-HX.out] at hx;cases hcb:q1W x with
    | true=>
     go_wp2_with (go_at_call 39; refine (v1V _ _).mono ?_; rintro e w' ⟨rfl,rfl⟩);go_round
     case rel=>exact ⟨k+1,by omega,by go_num,j5F (by rw [<-HN.out]; exact hlt) hall.out (by rw [<-HX.out]; exact hcb)⟩
     case measure=>simp [intOf]; omega
    | false=>
     go_wp2_with (go_at_call 39; refine (v1V _ _).mono ?_; rintro e w' ⟨rfl,rfl⟩);go_ret;exact ⟨z1N (j5H (by rw [<-HN.out]; exact hlt) (by rw [<-HX.out]; exact hcb)).symm,rfl⟩
   ·
    have e:k=n:=by omega
    subst e;go_wp2;go_ret;exact ⟨z1N (ok_all (by rw [<-HN.out]; omega) (by rw [<-HN.out]; omega) (by rw [<-HN.out]; exact hall.out)).symm,rfl⟩
 ·
  go_enter Tryz.func47,Tryz.ntmps47;go_wp2;go_ret;exact ⟨z1N (z6S (by rw [<-HN.out]; omega)).symm,rfl⟩
theorem v3J (a:Option Addr) (cap:Nat) (w:World) :
  Calls Tryz.prog 47 #[.slice a 0 cap] w fun e w'=>e = .returned (.bool (z1R []))/\w'=w:=by
 go_enter Tryz.func47,Tryz.ntmps47;go_wp2;go_ret;exact ⟨rfl,rfl⟩
theorem j1C (v:Value) (xs:List Int) (w:World) (h:z1E w v xs) :
  Calls Tryz.prog 47 #[v] w fun e w'=>e = .returned (.bool (z1R xs))/\w'=w:=by
 rcases h.cases with ⟨a,cap,rfl,rfl⟩ | ⟨b,off,cap,hpos,hlim,rfl,hbw,hc⟩
 ·
  exact v3J a cap w
 ·
  exact v3I b off cap xs w hpos hlim hc
def k1S (w w':World):Prop:=∃ q,w'=w.drewN q
theorem k1S.refl (w:World):k1S w w:=⟨0,rfl⟩
theorem k1S.more {w a:World} (h:k1S w a) (n:Nat):k1S w (a.drewN n):=by
 obtain ⟨q,rfl⟩:=h;exact ⟨q+n,by rw [World.drewN_drewN]⟩
theorem k1S.below {w w':World} (h:k1S w w'):Below w.heap.size w w':=by
 obtain ⟨q,rfl⟩:=h;exact below_drewN (Below.refl _ _) _
def ordL:List Int->List Int->Int
 | [],[]=>0
 | [],_ :: _=> -1
 | _ :: _,[]=>1
 | x :: xs,y :: ys=>if x<y then -1 else if y<x then 1 else ordL xs ys
def ordN (n m:Nat):Int:=if n<m then -1 else if m<n then 1 else 0
def j2U (x y:Int):Int:=if x<y then -1 else if y<x then 1 else 0
theorem ord_drop:∀ (k:Nat) (xs ys:List Int),(∀ j,j<k->xs.getD j 0=ys.getD j 0)->k<=xs.length->k<=ys.length->ordL xs ys=ordL (xs.drop k) (ys.drop k)
 | 0,_,_,_,_,_=>by simp
 | k+1,xs,ys,h,hx,hy=>by
  match xs,ys,hx,hy with
  | x :: xs,y :: ys,hx,hy=>
   have h0:=h 0 (by omega)
   simp at h0
   subst h0
   have:=ord_drop k xs ys (fun j hj=>by simpa using h (j+1) (by omega)) (by simpa using hx) (by simpa using hy)
   simp [ordL,this]
theorem ord_at {xs ys:List Int} {k:Nat} (h:∀ j,j<k->xs.getD j 0=ys.getD j 0) (hx:k<xs.length) (hy:k<ys.length) (hne:j2U (xs.getD k 0) (ys.getD k 0)≠0) :
  ordL xs ys=j2U (xs.getD k 0) (ys.getD k 0):=by
 rw [ord_drop k xs ys h (by omega) (by omega),List.drop_eq_getElem_cons hx,List.drop_eq_getElem_cons hy];simp only [List.getD,List.getElem?_eq_getElem hx,List.getElem?_eq_getElem hy,Option.getD_some] at hne ⊢;unfold j2U at hne ⊢;rw [ordL];by_cases h1:xs[k]<ys[k]
 ·
  simp [h1]
 ·
  by_cases h2:ys[k]<xs[k]
  ·
   simp [h1,h2]
  ·
   simp [h1,h2] at hne
theorem j3J {xs ys:List Int} {k:Nat} (h:∀ j,j<k->xs.getD j 0=ys.getD j 0) (hx:k<=xs.length) (hy:k<=ys.length) (he:k=xs.length\/k=ys.length) :
  ordL xs ys=ordN xs.length ys.length:=by
 rw [ord_drop k xs ys h hx hy];unfold ordN;rcases he with he | he
 ·
  have e1:xs.drop k=[]:=by rw [List.drop_eq_nil_iff]; omega
  rw [e1];cases hd:ys.drop k with
  | nil=>rw [List.drop_eq_nil_iff] at hd; rw [if_neg (by omega),if_neg (by omega)]; rfl
  | cons y l=>
   have:(ys.drop k).length=l.length+1:=by rw [hd]; rfl
   rw [List.length_drop] at this;rw [if_pos (by omega)]; rfl
 ·
  have e1:ys.drop k=[]:=by rw [List.drop_eq_nil_iff]; omega
  rw [e1];cases hd:xs.drop k with
  | nil=>rw [List.drop_eq_nil_iff] at hd; rw [if_neg (by omega),if_neg (by omega)]; rfl
  | cons y l=>
   have:(xs.drop k).length=l.length+1:=by rw [hd]; rfl
   rw [List.length_drop] at this;rw [if_neg (by omega),if_pos (by omega)]; rfl
theorem j3K (n m:Nat):ordN n m=j2U n m:=by unfold ordN j2U; simp
theorem z4K (n m:Nat):j2U ((n:Int) - m) 0=ordN n m:=by
 unfold ordN j2U;by_cases h1:n<m
 ·
  rw [if_pos (by omega),if_pos h1]
 ·
  by_cases h2:m<n
  ·
   rw [if_neg (by omega),if_pos (by omega),if_neg h1,if_pos h2]
  ·
   rw [if_neg (by omega),if_neg (by omega),if_neg h1,if_neg h2]
theorem k1D (x y:Int) (w:World):Calls Tryz.prog 87 #[.int .i64 x,.int .i64 y] w fun e w'=>e = .returned (.int .i64 (j2U x y))/\w'=w:=by
 by_cases h1:x<y
 ·
  go_enter Tryz.func87,Tryz.ntmps87;go_wp2;go_ret;exact ⟨j2D (by unfold j2U; rw [if_pos h1]),rfl⟩
 ·
  by_cases h2:y<x
  ·
   go_enter Tryz.func87,Tryz.ntmps87;go_wp2;go_ret;exact ⟨j2D (by unfold j2U; rw [if_neg (by omega),if_pos h2]),rfl⟩
  ·
   go_enter Tryz.func87,Tryz.ntmps87;go_wp2;go_ret;exact ⟨j2D (by unfold j2U; rw [if_neg (by omega),if_neg (by omega)]),rfl⟩
theorem q3J (b off cap b2 off2 cap2:Nat) (xs ys:List Int) (w:World) (hpos:0<xs.length) (hlim:xs.length<=140737488355328) (hpos2:0<ys.length) (hlim2:ys.length<=140737488355328)
  (hc:∀ j,j<xs.length->w.cell? ⟨b,off+j,none⟩=some (.int .i64 (xs.getD j 0)))
  (hc2:∀ j,j<ys.length->w.cell? ⟨b2,off2+j,none⟩=some (.int .i64 (ys.getD j 0))) :
  Calls Tryz.prog 86 #[.slice (some ⟨b,off,none⟩) xs.length cap,.slice (some ⟨b2,off2,none⟩) ys.length cap2,.func (.func 87) #[] #[]] w fun e w'=>
   e = .returned (.int .i64 (ordL xs ys))/\k1S w w':=by
 obtain ⟨n,hn⟩:∃ n,n=xs.length:=⟨_,rfl⟩;have HN:Hid (n=xs.length):=hn;obtain ⟨m,hm⟩:∃ m,m=ys.length:=⟨_,rfl⟩;have HM:Hid (m=ys.length):=hm;rw [<-hn] at hpos hlim hc ⊢;rw [<-hm] at hpos2 hlim2 hc2 ⊢;clear hn hm;go_enter Tryz.func86,Tryz.ntmps86;go_wp2;all_goals
  go_loopw [14] (fun i wr=> ∃ k q:Nat,k<=n/\k<=m/\i = .int .i64 k/\wr=w.drewN q/\Hid (∀ j,j<k->xs.getD j 0=ys.getD j 0))
   (fun i _=>n - (intOf i).toNat)
  case atStart=>exact ⟨0,0,Nat.zero_le _,Nat.zero_le _,rfl,rfl,by intro j hj; omega⟩
  case round=>
   obtain ⟨k,q,hkn,hkm,rfl,rfl,HS⟩:=hrel
   by_cases hlt:k<n/\k<m
   ·
    obtain ⟨hl1,hl2⟩:=hlt;have hx:=hc k hl1;have hy:=hc2 k hl2;clear hc hc2;obtain ⟨x,HX⟩:∃ x,Hid (x=xs.getD k 0):=⟨_,rfl⟩;obtain ⟨y,HY⟩:∃ y,Hid (y=ys.getD k 0):=⟨_,rfl⟩;rw [<-HX.out] at hx;rw [<-HY.out] at hy;by_cases hz:j2U x y=0
    ·
     have hne:(j2U x y != 0)=false:=by simp [hz]
     have HZ:Hid (x=y):=by
      unfold j2U at hz;by_cases h1:x<y
      ·
       simp [h1] at hz
      ·
       by_cases h2:y<x
       ·
        simp [h1,h2] at hz
       ·
        show x=y; omega
     clear hz;go_wp2;go_quiet ((go_at_call 87; exact (k1D _ _ _).mono fun _ _ h=>⟨h.1,_,h.2⟩))
     go_wp2;go_roundw
     case rel=>exact ⟨k+1,_,by omega,by omega,by go_num,rfl,fun j hj=>by
      rcases Nat.lt_succ_iff_lt_or_eq.1 hj with h | h
      ·
       exact HS.out j h
      ·
       rw [h,<-HX.out,<-HY.out]; exact HZ.out⟩
     case measure=>simp [intOf]; omega
    ·
     have hne:(j2U x y != 0)=true:=by simp [hz]
     have HE:Hid (ordL xs ys=j2U x y):=by
      have:=ord_at HS.out (by rw [<-HN.out]; exact hl1) (by rw [<-HM.out]; exact hl2) (by rw [<-HX.out,<-HY.out]; exact hz);rw [<-HX.out,<-HY.out] at this;exact this
     clear hz;go_wp2;go_quiet ((go_at_call 87; exact (k1D _ _ _).mono fun _ _ h=>⟨h.1,_,h.2⟩))
     go_wp2;go_ret;exact ⟨j2D HE.out.symm,k1S.more (k1S.refl _) _⟩
   ·
    have HE:Hid (ordL xs ys=j2U n m):=by
     have:=j3J HS.out (by rw [<-HN.out]; exact hkn) (by rw [<-HM.out]; exact hkm) (by rw [<-HN.out,<-HM.out]; omega);rw [<-HN.out,<-HM.out] at this;show ordL xs ys=j2U n m;rw [this,j3K]
    clear hc hc2;go_wp2_with (go_at_call 87; refine (k1D _ _ _).mono ?_; rintro e w' ⟨rfl,rfl⟩);go_ret;exact ⟨j2D HE.out.symm,k1S.more (k1S.refl _) _⟩
theorem q3K (a:Option Addr) (cap:Nat) (a2:Option Addr) (m cap2:Nat) (w:World) (hm:m<=140737488355328) :
  Calls Tryz.prog 86 #[.slice a 0 cap,.slice a2 m cap2,.func (.func 87) #[] #[]] w fun e w'=>e = .returned (.int .i64 (j2U 0 m))/\w'=w:=by
 go_enter Tryz.func86,Tryz.ntmps86;go_wp2;all_goals
  refine wp_loop_rounds 1 ?_
  rw [rounds_succ]
  go_wp2_with (go_at_call 87; refine (k1D _ _ _).mono ?_; rintro e w' ⟨rfl,rfl⟩)
  go_ret
  exact ⟨rfl,rfl⟩
theorem z3S (a:Option Addr) (n cap:Nat) (a2:Option Addr) (cap2:Nat) (w:World) (_hn:n<=140737488355328) :
  Calls Tryz.prog 86 #[.slice a n cap,.slice a2 0 cap2,.func (.func 87) #[] #[]] w fun e w'=>e = .returned (.int .i64 (j2U n 0))/\w'=w:=by
 go_enter Tryz.func86,Tryz.ntmps86;go_wp2;all_goals
  refine wp_loop_rounds 1 ?_
  rw [rounds_succ]
  go_wp2_with (go_at_call 87; refine (k1D _ _ _).mono ?_; rintro e w' ⟨rfl,rfl⟩)
  go_ret
  exact ⟨rfl,rfl⟩
theorem q5K (ys:List Int):ordL [] ys=j2U 0 ys.length:=by
 have:=j3J (xs:=[]) (ys:=ys) (k:=0) (by intro j hj; omega) (by simp) (by simp) (.inl rfl);rw [this,j3K]; rfl
theorem ordL_nil' (xs:List Int):ordL xs []=j2U xs.length 0:=by
 have:=j3J (xs:=xs) (ys:=[]) (k:=0) (by intro j hj; omega) (by simp) (by simp) (.inr rfl);rw [this,j3K]; rfl
theorem z2D (v v2:Value) (xs ys:List Int) (w:World) (h:z1E w v xs) (h2:z1E w v2 ys) :
  Calls Tryz.prog 86 #[v,v2,.func (.func 87) #[] #[]] w fun e w'=>e = .returned (.int .i64 (ordL xs ys))/\k1S w w':=by
 rcases h.cases with ⟨a,cap,rfl,rfl⟩ | ⟨b,off,cap,hpos,hlim,rfl,hbw,hc⟩
 ·
  obtain ⟨hl,a2,cap2,rfl,_⟩:=h2;rw [q5K];refine (q3K a cap a2 _ cap2 w hl).mono fun e w' ⟨he,hw⟩=>⟨he,?_⟩;rw [hw]; exact k1S.refl _
 ·
  rcases h2.cases with ⟨a2,cap2,rfl,rfl⟩ | ⟨b2,off2,cap2,hpos2,hlim2,rfl,_,hc2⟩
  ·
   rw [ordL_nil'];refine (z3S _ _ cap a2 cap2 w hlim).mono fun e w' ⟨he,hw⟩=>⟨he,?_⟩;rw [hw]; exact k1S.refl _
  ·
   exact q3J b off cap b2 off2 cap2 xs ys w hpos hlim hpos2 hlim2 hc hc2
theorem x4A (b off cap b2 off2 cap2:Nat) (xs ys:List Int) (w:World) (hpos:0<xs.length) (hlim:xs.length<=140737488355328) (hpos2:0<ys.length) (hlim2:ys.length<=140737488355328)
  (hc:∀ j,j<xs.length->w.cell? ⟨b,off+j,none⟩=some (.int .i64 (xs.getD j 0)))
  (hc2:∀ j,j<ys.length->w.cell? ⟨b2,off2+j,none⟩=some (.int .i64 (ys.getD j 0))) :
  Calls Tryz.prog 164 #[.slice (some ⟨b,off,none⟩) xs.length cap,.slice (some ⟨b2,off2,none⟩) ys.length cap2] w fun e w'=>
   ∃ d:Int,e = .returned (.int .i64 d)/\j2U d 0=ordL xs ys/\k1S w w':=by
 obtain ⟨n,hn⟩:∃ n,n=xs.length:=⟨_,rfl⟩;have HN:Hid (n=xs.length):=hn;obtain ⟨m,hm⟩:∃ m,m=ys.length:=⟨_,rfl⟩;have HM:Hid (m=ys.length):=hm;rw [<-hn] at hpos hlim hc ⊢;rw [<-hm] at hpos2 hlim2 hc2 ⊢;clear hn hm;go_enter Tryz.func164,Tryz.ntmps164;go_wp2;go_loopw [5] (fun i wr=> ∃ k q:Nat,k<=n/\k<=m/\i = .int .i64 k/\wr=w.drewN q/\Hid (∀ j,j<k->xs.getD j 0=ys.getD j 0))
  (fun i _=>n - (intOf i).toNat)
 case atStart=>exact ⟨0,0,Nat.zero_le _,Nat.zero_le _,rfl,rfl,by intro j hj; omega⟩
 case round=>
  obtain ⟨k,q,hkn,hkm,rfl,rfl,HS⟩:=hrel;by_cases hl1:k<n
  ·
   by_cases hl2:k<m
   ·
    have hx:=hc k hl1;have hy:=hc2 k hl2;clear hc hc2;obtain ⟨x,HX⟩:∃ x,Hid (x=xs.getD k 0):=⟨_,rfl⟩;obtain ⟨y,HY⟩:∃ y,Hid (y=ys.getD k 0):=⟨_,rfl⟩;rw [<-HX.out] at hx;rw [<-HY.out] at hy;have HA:Hid (j2U x y≠0->ordL xs ys=j2U x y):=fun hz=>by
     have:=ord_at HS.out (by rw [<-HN.out]; exact hl1) (by rw [<-HM.out]; exact hl2) (by rw [<-HX.out,<-HY.out]; exact hz)
     rw [<-HX.out,<-HY.out] at this
     exact this
    by_cases h1:x<y
    ·
     go_wp2;go_quiet (fail)
     go_wp2;go_ret;exact ⟨-1,rfl,by rw [HA.out (by unfold j2U; rw [if_pos h1]; decide)]; unfold j2U; rw [if_pos h1]; rfl,by first | exact k1S.more (k1S.refl _) _ | exact k1S.more (k1S.more (k1S.refl _) _) _⟩
    ·
     by_cases h2:y<x
     ·
      go_wp2;go_quiet (fail)
      go_wp2;go_quiet (fail)
      go_wp2;go_ret;exact ⟨1,rfl,by rw [HA.out (by unfold j2U; rw [if_neg (by omega),if_pos h2]; decide)]; unfold j2U; rw [if_neg (by omega),if_pos (by omega),if_neg (by omega),if_pos h2],by first | exact k1S.more (k1S.refl _) _ | exact k1S.more (k1S.more (k1S.refl _) _) _ | exact k1S.more (k1S.more (k1S.more (k1S.refl _) _) _) _⟩
     ·
      have HXY:Hid (x=y):=by show x=y; omega
      go_wp2;go_quiet (fail)
      go_wp2;go_quiet (fail)
      go_wp2;go_roundw
      case rel=>exact ⟨k+1,_,by omega,by omega,by go_num,rfl,fun j hj=>by
       rcases Nat.lt_succ_iff_lt_or_eq.1 hj with h | h
       ·
        exact HS.out j h
       ·
        rw [h,<-HX.out,<-HY.out]; exact HXY.out⟩
      case measure=>simp [intOf]; omega
   ·
    have HE:Hid (ordL xs ys=ordN n m):=by
     have:=j3J HS.out (by rw [<-HN.out]; exact hkn) (by rw [<-HM.out]; exact hkm) (by rw [<-HN.out,<-HM.out]; omega);rw [<-HN.out,<-HM.out] at this;exact this
    clear hc hc2;go_wp2;go_ret;exact ⟨(n:Int) - m,rfl,by rw [HE.out,z4K],k1S.more (k1S.refl _) _⟩
  ·
   have HE:Hid (ordL xs ys=ordN n m):=by
    have:=j3J HS.out (by rw [<-HN.out]; exact hkn) (by rw [<-HM.out]; exact hkm) (by rw [<-HN.out,<-HM.out]; omega);rw [<-HN.out,<-HM.out] at this;exact this
   clear hc hc2;go_wp2;go_ret;exact ⟨(n:Int) - m,rfl,by rw [HE.out,z4K],k1S.more (k1S.refl _) _⟩
theorem z3X (a:Option Addr) (cap:Nat) (a2:Option Addr) (m cap2:Nat) (w:World) (hm:m<=140737488355328) :
  Calls Tryz.prog 164 #[.slice a 0 cap,.slice a2 m cap2] w fun e w'=>e = .returned (.int .i64 ((0:Nat) - (m:Int)))/\w'=w:=by
 go_enter Tryz.func164,Tryz.ntmps164;go_wp2;refine wp_loop_rounds 1 ?_;rw [rounds_succ];go_wp2;go_ret;exact ⟨j2D (by omega),rfl⟩
theorem z4R (a:Option Addr) (n cap:Nat) (a2:Option Addr) (cap2:Nat) (w:World) (hn:n<=140737488355328) :
  Calls Tryz.prog 164 #[.slice a n cap,.slice a2 0 cap2] w fun e w'=>e = .returned (.int .i64 ((n:Int) - (0:Nat)))/\w'=w:=by
 by_cases h0:0<n
 ·
  go_enter Tryz.func164,Tryz.ntmps164;go_wp2;refine wp_loop_rounds 1 ?_;rw [rounds_succ];go_wp2;go_ret;exact ⟨j2D (by omega),rfl⟩
 ·
  obtain rfl:n=0:=by omega
  exact z3X a cap a2 0 cap2 w (by omega)
theorem x4B (v v2:Value) (xs ys:List Int) (w:World) (h:z1E w v xs) (h2:z1E w v2 ys) :
  Calls Tryz.prog 164 #[v,v2] w fun e w'=> ∃ d:Int,e = .returned (.int .i64 d)/\j2U d 0=ordL xs ys/\k1S w w':=by
 rcases h.cases with ⟨a,cap,rfl,rfl⟩ | ⟨b,off,cap,hpos,hlim,rfl,hbw,hc⟩
 ·
  obtain ⟨hl,a2,cap2,rfl,_⟩:=h2;refine (z3X a cap a2 _ cap2 w hl).mono fun e w' ⟨he,hw⟩=>⟨_,he,?_,?_⟩
  ·
   rw [q5K,z4K,j3K]; rfl
  ·
   rw [hw]; exact k1S.refl _
 ·
  rcases h2.cases with ⟨a2,cap2,rfl,rfl⟩ | ⟨b2,off2,cap2,hpos2,hlim2,rfl,_,hc2⟩
  ·
   refine (z4R _ _ cap a2 cap2 w hlim).mono fun e w' ⟨he,hw⟩=>⟨_,he,?_,?_⟩
   ·
    rw [ordL_nil',z4K,j3K]; rfl
   ·
    rw [hw]; exact k1S.refl _
  ·
   exact x4A b off cap b2 off2 cap2 xs ys w hpos hlim hpos2 hlim2 hc hc2
def q1Z (xs ys:List Int):Bool:=ordL xs ys==0
def j1A (xs ys:List Int):Bool:=decide (ordL xs ys<0)
theorem v4S {d:Int} {xs ys:List Int} (h:j2U d 0=ordL xs ys):(d==0)=q1Z xs ys:=by
 unfold q1Z;rw [<-h];unfold j2U;by_cases h1:d<0
 ·
  rw [if_pos h1];have:(d==0)=false:=by simp; omega
  rw [this]; rfl
 ·
  rw [if_neg h1];by_cases h2:0<d
  ·
   rw [if_pos h2];have:(d==0)=false:=by simp; omega
   rw [this]; rfl
  ·
   rw [if_neg h2];have:d=0:=by omega
   subst this; rfl
theorem k4B {d:Int} {xs ys:List Int} (h:j2U d 0=ordL xs ys):decide (d<0)=j1A xs ys:=by
 unfold j1A;rw [<-h];unfold j2U;by_cases h1:d<0
 ·
  rw [if_pos h1]; simp [h1]
 ·
  rw [if_neg h1];by_cases h2:0<d
  ·
   rw [if_pos h2]; simp [h1]
  ·
   rw [if_neg h2]; simp [h1]
theorem k2F (v v2:Value) (xs ys:List Int) (w:World) (h:z1E w v xs) (h2:z1E w v2 ys) :
  Calls Tryz.prog 144 #[v,v2] w fun e w'=>e = .returned (.bool (q1Z xs ys))/\k1S w w':=by
 go_enter Tryz.func144,Tryz.ntmps144;go_wp2_with fail;refine (x4B v v2 xs ys _ h h2).mono ?_;rintro e w' ⟨d,rfl,hd,hb⟩;have HD:Hid (j2U d 0=ordL xs ys):=hd;clear hd h h2;go_wp2;go_ret;exact ⟨z1N (v4S HD.out),hb⟩
theorem j3F (v v2:Value) (xs ys:List Int) (w:World) (h:z1E w v xs) (h2:z1E w v2 ys) :
  Calls Tryz.prog 144 #[v,v2] w fun e w'=>e = .returned (.bool (q1Z xs ys))/\Below w.heap.size w w':=
 (k2F v v2 xs ys w h h2).mono fun _ _ ⟨h1,h2⟩=>⟨h1,h2.below⟩
theorem k3Z (v v2:Value) (xs ys:List Int) (w:World) (h:z1E w v xs) (h2:z1E w v2 ys) :
  Calls Tryz.prog 143 #[v,v2] w fun e w'=>e = .returned (.bool (j1A xs ys))/\k1S w w':=by
 go_enter Tryz.func143,Tryz.ntmps143;go_wp2_with fail;refine (x4B v v2 xs ys _ h h2).mono ?_;rintro e w' ⟨d,rfl,hd,hb⟩;have HD:Hid (j2U d 0=ordL xs ys):=hd;clear hd h h2;go_wp2;go_ret;exact ⟨z1N (k4B HD.out),hb⟩
theorem k2O (v v2:Value) (xs ys:List Int) (w:World) (h:z1E w v xs) (h2:z1E w v2 ys) :
  Calls Tryz.prog 69 #[v,v2] w fun e w'=>e = .returned (.bool (q1Z xs ys))/\k1S w w':=by
 go_enter Tryz.func69,Tryz.ntmps69;go_wp2_with fail;refine (z2D v v2 xs ys _ h h2).mono ?_;rintro e w' ⟨rfl,hb⟩;clear h h2;go_wp2;go_ret;exact ⟨rfl,hb⟩
theorem x3C (v v2:Value) (xs ys:List Int) (w:World) (h:z1E w v xs) (h2:z1E w v2 ys) :
  Calls Tryz.prog 69 #[v,v2] w fun e w'=>e = .returned (.bool (q1Z xs ys))/\Below w.heap.size w w':=
 (k2O v v2 xs ys w h h2).mono fun _ _ ⟨h1,h2⟩=>⟨h1,h2.below⟩
theorem z4Z (v v2:Value) (xs ys:List Int) (w:World) (h:z1E w v xs) (h2:z1E w v2 ys) :
  Calls Tryz.prog 49 #[v,v2] w fun e w'=>e = .returned (.bool (j1A xs ys))/\k1S w w':=by
 go_enter Tryz.func49,Tryz.ntmps49;go_wp2_with fail;refine (z2D v v2 xs ys _ h h2).mono ?_;rintro e w' ⟨rfl,hb⟩;clear h h2;go_wp2;go_ret;exact ⟨rfl,hb⟩
end Go.Proofs.YtmjaepdplbgohaaGreatDoor
namespace Go.Proofs.YtmjaepdplbgohaaGreatDoor
theorem ordL_cases:∀ xs ys:List Int,(ordL xs ys = -1/\ordL ys xs=1)\/(ordL xs ys=0/\ordL ys xs=0/\xs=ys)\/(ordL xs ys=1/\ordL ys xs = -1)
 | [],[]=> .inr (.inl ⟨rfl,rfl,rfl⟩)
 | [],_ :: _=> .inl ⟨rfl,rfl⟩
 | _ :: _,[]=> .inr (.inr ⟨rfl,rfl⟩)
 | x :: xs,y :: ys=>by
  simp only [ordL]
  by_cases h1:x<y
  ·
   have h2:¬ y<x:=by omega
   simp [h1,h2]
  ·
   by_cases h2:y<x
   ·
    simp [h1,h2]
   ·
    have e:x=y:=by omega
    subst e;simp only [h1,if_false];rcases ordL_cases xs ys with h | ⟨a,b,c⟩ | h
    ·
     exact .inl h
    ·
     exact .inr (.inl ⟨a,b,by rw [c]⟩)
    ·
     exact .inr (.inr h)
theorem v1Z (xs:List Int):ordL xs xs=0:=by
 rcases ordL_cases xs xs with h | h | h
 ·
  omega
 ·
  exact h.1
 ·
  omega
theorem ordL_trans:∀ xs ys zs:List Int,ordL xs ys = -1->ordL ys zs = -1->ordL xs zs = -1
 | [],[],_,h,_=>by simp [ordL] at h
 | [],_ :: _,[],_,h=>by simp [ordL] at h
 | [],_ :: _,_ :: _,_,_=>rfl
 | _ :: _,[],_,h,_=>by simp [ordL] at h
 | _ :: _,_ :: _,[],_,h=>by simp [ordL] at h
 | x :: xs,y :: ys,z :: zs,h1,h2=>by
  simp only [ordL] at h1 h2 ⊢
  by_cases a:x<y
  ·
   by_cases b:y<z
   ·
    rw [if_pos (by omega)]
   ·
    by_cases c:z<y
    ·
     simp [b,c] at h2
    ·
     have e:y=z:=by omega
     subst e;rw [if_pos a]
  ·
   by_cases a2:y<x
   ·
    simp [a,a2] at h1
   ·
    have e:x=y:=by omega
    subst e;simp only [a,if_false] at h1;by_cases b:x<z
    ·
     rw [if_pos b]
    ·
     by_cases c:z<x
     ·
      simp [b,c] at h2
     ·
      simp only [b,c,if_false] at h2 ⊢;exact ordL_trans xs ys zs h1 h2
theorem j2B (xs ys:List Int):q1Z xs ys=decide (xs=ys):=by
 unfold q1Z;rcases ordL_cases xs ys with h | h | h
 ·
  have:xs≠ys:=fun e=>by subst e; rw [v1Z] at h; omega
  simp [h.1,this]
 ·
  simp [h.2.2,v1Z]
 ·
  have:xs≠ys:=fun e=>by subst e; rw [v1Z] at h; omega
  simp [h.1,this]
theorem j4F (xs:List Int):q1Z xs xs=true:=by rw [j2B]; simp
theorem three (xs ys:List Int):(j1A xs ys=true/\j1A ys xs=false/\q1Z xs ys=false)\/(j1A xs ys=false/\j1A ys xs=false/\q1Z xs ys=true/\xs=ys)\/(j1A xs ys=false/\j1A ys xs=true/\q1Z xs ys=false):=by
 unfold j1A q1Z;rcases ordL_cases xs ys with h | h | h
 ·
  left; simp [h.1,h.2]
 ·
  right; left; simp [h.2.2,v1Z]
 ·
  right; right; simp [h.1,h.2]
end Go.Proofs.YtmjaepdplbgohaaGreatDoor
namespace Go.Proofs.YtmjaepdplbgohaaGreatDoor
open Go.RowKit
theorem z1C {w:World} (o:Obj):Below w.heap.size w (w.alloc o):=(Below.refl _ _).alloc (Nat.le_refl _) _
theorem z1D {w a b:World} (h:Below w.heap.size w a) (k:Below a.heap.size a b):Below w.heap.size w b:=h.trans (k.mono h.size)
theorem z1E.alloc {w:World} {v:Value} {xs:List Int} (h:z1E w v xs) (o:Obj):z1E (w.alloc o) v xs:=h.below (z1C o)
theorem z1E.drewN {w:World} {v:Value} {xs:List Int} (h:z1E w v xs) (n:Nat):z1E (w.drewN n) v xs:=h.below (below_drewN (Below.refl _ _) _)
theorem z1E.shape {w:World} {v:Value} {xs:List Int} (h:z1E w v xs):∃ a n cap,v = .slice a n cap:=by
 obtain ⟨_,a,cap,rfl,_⟩:=h;exact ⟨_,_,_,rfl⟩
abbrev It:=List Int × Int
def z1I (w:World) (v:Value) (zs:List It):Prop:=
 zs.length<=140737488355328/\∃ (a:Option Addr) (cap:Nat),v = .slice a zs.length cap/\(a=none->cap=0) ∧
  (zs≠[]->∃ b off,a=some ⟨b,off,none⟩/\b<w.heap.size/\∀ j,j<zs.length->∃ rv,w.cell? ⟨b,off+j*2,none⟩=some rv/\w.cell? ⟨b,off+j*2+1,none⟩=some (.int .i64 (zs.getD j ([],0)).2)/\z1E w rv (zs.getD j ([],0)).1)
theorem z1I.below {w w':World} {v:Value} {zs:List It} (h:z1I w v zs) (hb:Below w.heap.size w w'):z1I w' v zs:=by
 obtain ⟨hl,a,cap,rfl,hn,hc⟩:=h;refine ⟨hl,a,cap,rfl,hn,fun hne=> ?_⟩;obtain ⟨b,off,rfl,hbl,hcell⟩:=hc hne;refine ⟨b,off,rfl,Nat.lt_of_lt_of_le hbl hb.size,fun j hj=> ?_⟩;obtain ⟨rv,h1,h2,h3⟩:=hcell j hj;exact ⟨rv,(hb.cell (p:=⟨b,off+j*2,none⟩) hbl).trans h1,(hb.cell (p:=⟨b,off+j*2+1,none⟩) hbl).trans h2,h3.below hb⟩
theorem z1I.cases {w:World} {v:Value} {zs:List It} (h:z1I w v zs) :
  (∃ a cap,zs=[]/\v = .slice a 0 cap) ∨
  (∃ b off cap,0<zs.length/\zs.length<=140737488355328/\v = .slice (some ⟨b,off,none⟩) zs.length cap/\b<w.heap.size/\∀ j,j<zs.length->∃ rv,w.cell? ⟨b,off+j*2,none⟩=some rv/\w.cell? ⟨b,off+j*2+1,none⟩=some (.int .i64 (zs.getD j ([],0)).2)/\z1E w rv (zs.getD j ([],0)).1):=by
 obtain ⟨hl,a,cap,rfl,_,hc⟩:=h;by_cases hx:zs=[]
 ·
  subst hx;exact .inl ⟨a,cap,rfl,rfl⟩
 ·
  obtain ⟨b,off,rfl,hbl,hcell⟩:=hc hx;exact .inr ⟨b,off,cap,List.length_pos_iff.2 hx,hl,rfl,hbl,hcell⟩
def wB (n:Int):Bool:=decide (n≠0/\-10000<=n/\n<=10000)
def q2B (zs:List It) (k:Nat):Bool:=z1R (zs.getD k ([],0)).1&&wB (zs.getD k ([],0)).2&&(decide (k=0) || j1A (zs.getD (k - 1) ([],0)).1 (zs.getD k ([],0)).1)
def q1G (zs:List It):Bool:=decide (zs.length<=100)&&(List.range zs.length).all (q2B zs)
theorem k5A {zs:List It} (h:¬ zs.length<=100):q1G zs=false:=by simp [q1G,h]
theorem x2P {zs:List It} {k:Nat} (hk:k<zs.length) (h:q2B zs k=false):q1G zs=false:=by
 have:(List.range zs.length).all (q2B zs)=false:=by
  rw [List.all_eq_false];exact ⟨k,List.mem_range.2 hk,by simp [h]⟩
 simp [q1G,this]
theorem k3Q {zs:List It} (hl:zs.length<=100) (h:∀ j,j<zs.length->q2B zs j=true):q1G zs=true:=by
 have:(List.range zs.length).all (q2B zs)=true:=by
  rw [List.all_eq_true];exact fun k hk=>h k (List.mem_range.1 hk)
 simp [q1G,this,hl]
theorem wB_yes {n:Int} (h0:n≠0) (h1 : -10000<=n) (h2:n<=10000):wB n=true:=by simp [wB,h0,h1,h2]
theorem wB_no {n:Int} (h:¬ (n≠0/\-10000<=n/\n<=10000)):wB n=false:=by simp only [wB,h,decide_false]
theorem x3T (n:Int) (w:World):Calls Tryz.prog 48 #[.int .i64 n] w fun e w'=>e = .returned (.bool (wB n))/\w'=w:=by
 by_cases h0:n=0
 ·
  subst h0;go_enter Tryz.func48,Tryz.ntmps48;go_wp2;go_ret;exact ⟨rfl,rfl⟩
 ·
  have hne:(n != 0)=true:=by simp [h0]
  by_cases h1 : -10000<=n
  ·
   by_cases h2:n<=10000
   ·
    go_enter Tryz.func48,Tryz.ntmps48;go_wp2;go_ret;exact ⟨z1N (wB_yes h0 h1 h2).symm,rfl⟩
   ·
    go_enter Tryz.func48,Tryz.ntmps48;go_wp2;go_ret;exact ⟨z1N (wB_no (by omega)).symm,rfl⟩
  ·
   go_enter Tryz.func48,Tryz.ntmps48;go_wp2;go_ret;exact ⟨z1N (wB_no (by omega)).symm,rfl⟩
theorem l2W_any (n:Int) (w:World):Calls Tryz.prog 149 #[.int .i64 n] w fun e w'=>e = .returned (.bool (wB n))/\w'=w:=by
 by_cases h0:n=0
 ·
  subst h0;go_enter Tryz.func149,Tryz.ntmps149;go_wp2;go_ret;exact ⟨rfl,rfl⟩
 ·
  have hne:(n != 0)=true:=by simp [h0]
  by_cases h1 : -10000<=n
  ·
   by_cases h2:n<=10000
   ·
    go_enter Tryz.func149,Tryz.ntmps149;go_wp2;go_ret;exact ⟨z1N (wB_yes h0 h1 h2).symm,rfl⟩
   ·
    go_enter Tryz.func149,Tryz.ntmps149;go_wp2;go_ret;exact ⟨z1N (wB_no (by omega)).symm,rfl⟩
  ·
   go_enter Tryz.func149,Tryz.ntmps149;go_wp2;go_ret;exact ⟨z1N (wB_no (by omega)).symm,rfl⟩
def vn:Value:=.slice none 0 0
def z1Z (ps:List (Value × Int)):List Value:=ps.flatMap fun p=>[p.1,.int .i64 p.2]
theorem j1M (p:Value × Int) (ps:List (Value × Int)):z1Z (p :: ps)=p.1 :: .int .i64 p.2 :: z1Z ps:=rfl
theorem z2E (ps qs:List (Value × Int)):z1Z (ps++qs)=z1Z ps++z1Z qs:=by simp [z1Z]
theorem j1D (ps:List (Value × Int)):(z1Z ps).length=ps.length*2:=by
 induction ps with
 | nil=>rfl
 | cons p ps ih=>rw [j1M]; simp [ih]; omega
theorem cells2_get0:∀ (ps:List (Value × Int)) (j:Nat),j<ps.length->(z1Z ps)[j*2]? = some (ps.getD j (vn,0)).1
 | p :: ps,0,_=>by simp [j1M]
 | p :: ps,j+1,h=>by
  have:=cells2_get0 ps j (by simpa using h)
  rw [j1M,show (j+1)*2=j*2+1+1 by omega]
  simpa using this
theorem cells2_get1:∀ (ps:List (Value × Int)) (j:Nat),j<ps.length->(z1Z ps)[j*2+1]? = some (.int .i64 (ps.getD j (vn,0)).2)
 | p :: ps,0,_=>by simp [j1M]
 | p :: ps,j+1,h=>by
  have:=cells2_get1 ps j (by simpa using h)
  rw [j1M,show (j+1)*2+1=j*2+1+1+1 by omega]
  simpa using this
theorem cells2_set0:∀ (ps:List (Value × Int)) (j:Nat) (v:Value),j<ps.length->(z1Z ps).set (j*2) v=z1Z (ps.set j (v,(ps.getD j (vn,0)).2))
 | p :: ps,0,v,_=>by simp [j1M]
 | p :: ps,j+1,v,h=>by
  have:=cells2_set0 ps j v (by simpa using h)
  rw [j1M,show (j+1)*2=j*2+1+1 by omega,List.set_cons_succ,List.set_cons_succ,this]
  simp [j1M]
theorem cells2_set1:∀ (ps:List (Value × Int)) (j:Nat) (y:Int),j<ps.length->(z1Z ps).set (j*2+1) (.int .i64 y)=z1Z (ps.set j ((ps.getD j (vn,0)).1,y))
 | p :: ps,0,y,_=>by simp [j1M]
 | p :: ps,j+1,y,h=>by
  have:=cells2_set1 ps j y (by simpa using h)
  rw [j1M,show (j+1)*2+1=j*2+1+1+1 by omega,List.set_cons_succ,List.set_cons_succ,this]
  simp [j1M]
def z1P (w:World) (lo hi:Nat) (v:Value) (ps:List (Value × Int)):Prop:=
 w.ownsRow lo 47 2 v ps.length (z1Z ps)/\(∀ k,v.ownBlock=some k->k<hi)/\ps.length<=140737488355328/\hi<=w.heap.size
theorem v1C {w:World} {lo n:Nat} {v:Value} {ps:List (Value × Int)} (h:w.ownsRow lo 47 2 v n (z1Z ps)) (hl:ps.length<=140737488355328):z1P w lo w.heap.size v ps:=by
 have hn:n=ps.length:=by have:=h.1; rw [j1D] at this; omega
 subst hn;exact ⟨h,fun k hk=>(h.lt k hk).2,hl,Nat.le_refl _⟩
theorem z1P.keep {w w':World} {lo hi:Nat} {v:Value} {ps:List (Value × Int)} (h:z1P w lo hi v ps) (hb:Below hi w w'):z1P w' lo hi v ps:=by
 obtain ⟨⟨h1,h2⟩,hhi,hl,hs⟩:=h;refine ⟨⟨h1,?_⟩,hhi,hl,Nat.le_trans hs hb.size⟩;rcases h2 with h2 | ⟨g,cap,cur,hv,hg,hh,r⟩
 ·
  exact .inl h2
 ·
  exact .inr ⟨g,cap,cur,hv,hg,(hb.block g (hhi g (by rw [hv]; rfl))).trans hh,r⟩
theorem z1P.wide {w:World} {lo hi lo' hi':Nat} {v:Value} {ps:List (Value × Int)} (h:z1P w lo hi v ps) (h1:lo'<=lo) (h2:hi<=hi') (h3:hi'<=w.heap.size):z1P w lo' hi' v ps:=by
 obtain ⟨⟨a,b⟩,hhi,hl,hs⟩:=h;refine ⟨⟨a,?_⟩,fun k hk=>Nat.lt_of_lt_of_le (hhi k hk) h2,hl,h3⟩;rcases b with b | ⟨g,cap,cur,hv,hg,r⟩
 ·
  exact .inl b
 ·
  exact .inr ⟨g,cap,cur,hv,Nat.le_trans h1 hg,r⟩
theorem z1P.kept {w w':World} {lo hi:Nat} {v:Value} {ps:List (Value × Int)} (h:z1P w lo hi v ps) {row:Option Nat} (hg:w.grownBy w' row) (hne:v.ownBlock=none\/v.ownBlock≠row):z1P w' lo hi v ps:=
 ⟨h.1.kept hg hne,h.2.1,h.2.2.1,Nat.le_trans h.2.2.2 hg.size⟩
theorem z1P.shape {w:World} {lo hi:Nat} {v:Value} {ps:List (Value × Int)} (h:z1P w lo hi v ps) (hne:0<ps.length):∃ g cap,v = .slice (some ⟨g,0,none⟩) ps.length cap/\lo<=g/\g<hi/\ps.length<=cap/\cap<=maxLen:=by
 obtain ⟨⟨_,b⟩,hhi,_,_⟩:=h;rcases b with ⟨_,hn⟩ | ⟨g,cap,cur,hv,hg,_,hc,hm,_⟩
 ·
  omega
 ·
  exact ⟨g,cap,hv,hg,hhi g (by rw [hv]; rfl),hc,hm⟩
theorem z1P.cell0 {w:World} {lo hi:Nat} {g n cap:Nat} {ps:List (Value × Int)} (h:z1P w lo hi (.slice (some ⟨g,0,none⟩) n cap) ps) {j:Nat} (hj:j<ps.length):w.cell? ⟨g,j*2,none⟩=some (ps.getD j (vn,0)).1:=by
 have hn:n=ps.length:=by
  rcases h.1.2 with ⟨e,_⟩ | ⟨_,_,_,e,_⟩ <;> simp at e
  exact e.2.1
 subst hn;rw [h.1.cellAt (j*2) (by omega),cells2_get0 ps j hj]
theorem z1P.cell1 {w:World} {lo hi:Nat} {g n cap:Nat} {ps:List (Value × Int)} (h:z1P w lo hi (.slice (some ⟨g,0,none⟩) n cap) ps) {j:Nat} (hj:j<ps.length):w.cell? ⟨g,j*2+1,none⟩=some (.int .i64 (ps.getD j (vn,0)).2):=by
 have hn:n=ps.length:=by
  rcases h.1.2 with ⟨e,_⟩ | ⟨_,_,_,e,_⟩ <;> simp at e
  exact e.2.1
 subst hn;rw [h.1.cellAt (j*2+1) (by omega),cells2_get1 ps j hj]
theorem j1G {w:World} {lo hi lo' hi':Nat} {v rv:Value} {ps:List (Value × Int)} {xs:List Int} (h:z1P w lo hi v ps) (hr:Own w lo' hi' rv xs):rv.ownBlock=none\/rv.ownBlock≠v.ownBlock:=by
 rcases hr.1.2 with ⟨rfl,_⟩ | ⟨g,cap,cur,rfl,_,hg,_⟩
 ·
  exact .inl rfl
 ·
  refine .inr fun e=> ?_;rcases h.1.2 with ⟨rfl,_⟩ | ⟨g',cap',cur',rfl,_,hg',_⟩
  ·
   simp [Value.ownBlock] at e
  ·
   simp [Value.ownBlock] at e;subst e;rw [hg] at hg';simp at hg'
def z1V (w:World) (lo hi:Nat) (v:Value) (zs:List It):Prop:=
 ∃ ps:List (Value × Int),ps.map (·.2)=zs.map (·.2)/\z1P w lo hi v ps/\(∀ j,j<ps.length->Own w lo hi (ps.getD j (vn,0)).1 (zs.getD j ([],0)).1) ∧
  ∀ i j k,i<j->j<ps.length->(ps.getD i (vn,0)).1.ownBlock=some k->(ps.getD j (vn,0)).1.ownBlock≠some k
theorem j2A {ps:List (Value × Int)} {zs:List It} (h:ps.map (·.2)=zs.map (·.2)) (j:Nat):(ps.getD j (vn,0)).2=(zs.getD j ([],0)).2:=by
 have h1:(ps.map (·.2)).getD j 0=(zs.map (·.2)).getD j 0:=by rw [h]
 simp only [List.getD,List.getElem?_map] at h1 ⊢;cases h2:ps[j]? <;> cases h3:zs[j]? <;> simp [h2,h3] at h1 ⊢ <;> exact h1
theorem x1X {ps:List (Value × Int)} {zs:List It} (h:ps.map (·.2)=zs.map (·.2)):ps.length=zs.length:=by
 have:=congrArg List.length h;simpa using this
theorem v2K {w:World} {lo hi:Nat} {v:Value} {ps:List (Value × Int)} {zs:List It} (he:ps.map (·.2)=zs.map (·.2)) (h:z1P w lo hi v ps) (hr:∀ j,j<ps.length->z1E w (ps.getD j (vn,0)).1 (zs.getD j ([],0)).1):z1I w v zs:=by
 have hl:=x1X he;refine ⟨by rw [<-hl]; exact h.2.2.1,?_⟩;rcases h.1.2 with ⟨rfl,hn⟩ | ⟨g,cap,cur,rfl,_,hg,_⟩
 ·
  have:zs=[]:=List.length_eq_zero_iff.1 (by omega);subst this;exact ⟨none,0,rfl,fun _=>rfl,fun h=>absurd rfl h⟩
 ·
  refine ⟨some ⟨g,0,none⟩,cap,by rw [hl],fun h=>by simp at h,fun hne=>⟨g,0,rfl,(Array.getElem?_eq_some_iff.1 hg).1,fun j hj=> ?_⟩⟩;have hj':j<ps.length:=by omega
  refine ⟨_,by rw [Nat.zero_add]; exact h.cell0 hj',?_,hr j hj'⟩;rw [Nat.zero_add,h.cell1 hj',j2A he]
theorem z1V.items {w:World} {lo hi:Nat} {v:Value} {zs:List It} (h:z1V w lo hi v zs):z1I w v zs:=by
 obtain ⟨ps,he,hs,hr,_⟩:=h;exact v2K he hs fun j hj=>(hr j hj).ints
theorem z1V.keep {w w':World} {lo hi:Nat} {v:Value} {zs:List It} (h:z1V w lo hi v zs) (hb:Below hi w w'):z1V w' lo hi v zs:=by
 obtain ⟨ps,he,hs,hr,ha⟩:=h;exact ⟨ps,he,hs.keep hb,fun j hj=>(hr j hj).keep hb,ha⟩
theorem z1V.hi_le {w:World} {lo hi:Nat} {v:Value} {zs:List It} (h:z1V w lo hi v zs):hi<=w.heap.size:=by
 obtain ⟨ps,he,hs,hr,ha⟩:=h;exact hs.2.2.2
theorem z1V.keep' {w w':World} {lo hi:Nat} {v:Value} {zs:List It} (h:z1V w lo hi v zs) (hb:Below w.heap.size w w'):z1V w' lo hi v zs:=h.keep (hb.mono h.hi_le)
theorem z1V.wide {w:World} {lo hi lo' hi':Nat} {v:Value} {zs:List It} (h:z1V w lo hi v zs) (h1:lo'<=lo) (h2:hi<=hi') (h3:hi'<=w.heap.size):z1V w lo' hi' v zs:=by
 obtain ⟨ps,he,hs,hr,ha⟩:=h;exact ⟨ps,he,hs.wide h1 h2 h3,fun j hj=>(hr j hj).wide h1 h2 h3,ha⟩
structure Only (lo hi:Nat) (w w':World):Prop where
 os:w'.os=w.os
 tape:w'.tape=w.tape
 output:w'.output=w.output
 size:w.heap.size<=w'.heap.size
 block:∀ k,k<w.heap.size->(k<lo\/hi<=k)->w'.heap[k]? = w.heap[k]?
theorem Only.refl (lo hi:Nat) (w:World):Only lo hi w w:=⟨rfl,rfl,rfl,Nat.le_refl _,fun _ _ _=>rfl⟩
theorem Only.trans {lo hi:Nat} {a b c:World} (h:Only lo hi a b) (k:Only lo hi b c):Only lo hi a c:=
 ⟨k.os.trans h.os,k.tape.trans h.tape,k.output.trans h.output,Nat.le_trans h.size k.size,fun i hi' hr=>(k.block i (Nat.lt_of_lt_of_le hi' h.size) hr).trans (h.block i hi' hr)⟩
theorem Only.of_grown {lo hi:Nat} {a b:World} {row:Option Nat} (h:a.grownBy b row) (hr:∀ k,row=some k->lo<=k/\k<hi):Only lo hi a b:=
 ⟨h.os,h.tape,h.output,h.size,fun i hi' hk=>h.block i hi' (fun e=>by have:=hr i e.symm; omega)⟩
theorem Only.below {lo hi B:Nat} {w a b:World} (h:Only lo hi a b) (hb:Below B w a) (hB:B<=lo) (hs:B<=a.heap.size):Below B w b:=by
 refine hb.trans ?_;exact ⟨h.os,h.tape,h.output,h.size,fun k hk=>h.block k (by omega) (.inl (by omega))⟩
theorem Own.only {w w':World} {lo hi lo' hi':Nat} {v:Value} {xs:List Int} (h:Own w lo' hi' v xs) (k:Only lo hi w w') (ha:hi'<=lo\/hi<=lo'):Own w' lo' hi' v xs:=by
 obtain ⟨ho,hhi,hl,hs⟩:=h;obtain ⟨h1,h2⟩:=ho;refine ⟨⟨h1,?_⟩,hhi,hl,Nat.le_trans hs k.size⟩;rcases h2 with h2 | ⟨g,cap,cur,hv,hg,hh,r⟩
 ·
  exact .inl h2
 ·
  have h3:=hhi g (by rw [hv]; rfl);exact .inr ⟨g,cap,cur,hv,hg,(k.block g (by omega) (by omega)).trans hh,r⟩
theorem z1P.only {w w':World} {lo hi lo' hi':Nat} {v:Value} {ps:List (Value × Int)} (h:z1P w lo' hi' v ps) (k:Only lo hi w w') (ha:hi'<=lo\/hi<=lo'):z1P w' lo' hi' v ps:=by
 obtain ⟨ho,hhi,hl,hs⟩:=h;obtain ⟨h1,h2⟩:=ho;refine ⟨⟨h1,?_⟩,hhi,hl,Nat.le_trans hs k.size⟩;rcases h2 with h2 | ⟨g,cap,cur,hv,hg,hh,r⟩
 ·
  exact .inl h2
 ·
  have h3:=hhi g (by rw [hv]; rfl);exact .inr ⟨g,cap,cur,hv,hg,(k.block g (by omega) (by omega)).trans hh,r⟩
theorem z1V.only {w w':World} {lo hi lo' hi':Nat} {v:Value} {zs:List It} (h:z1V w lo' hi' v zs) (k:Only lo hi w w') (ha:hi'<=lo\/hi<=lo'):z1V w' lo' hi' v zs:=by
 obtain ⟨ps,he,hs,hr,hap⟩:=h;exact ⟨ps,he,hs.only k ha,fun j hj=>(hr j hj).only k ha,hap⟩
theorem infoItem:(Tryz.prog.info? 47).map (fun i=>(i.zero,i.size,i.bytes))=some (some (.agg #[.slice none 0 0,.int .i64 0]),2,32):=by kernel_rfl
theorem z1P.stored0 {w:World} {lo hi:Nat} {g n cap:Nat} {ps:List (Value × Int)} (h:z1P w lo hi (.slice (some ⟨g,0,none⟩) n cap) ps) {j:Nat} (hj:j<ps.length) (u:Value) :
  z1P (w.setCell ⟨g,j*2,none⟩ u) lo hi (.slice (some ⟨g,0,none⟩) n cap) (ps.set j (u,(ps.getD j (vn,0)).2))/\w.grownBy (w.setCell ⟨g,j*2,none⟩ u) (some g):=by
 have hn:n=ps.length:=by
  rcases h.1.2 with ⟨e,_⟩ | ⟨_,_,_,e,_⟩ <;> simp at e
  exact e.2.1
 subst hn;have hst:=h.1.stored (j*2) u;rw [cells2_set0 ps j u hj] at hst;exact ⟨⟨by rw [List.length_set]; exact hst.1,h.2.1,by rw [List.length_set]; exact h.2.2.1,Nat.le_trans h.2.2.2 hst.2.size⟩,hst.2⟩
theorem z1P.stored1 {w:World} {lo hi:Nat} {g n cap:Nat} {ps:List (Value × Int)} (h:z1P w lo hi (.slice (some ⟨g,0,none⟩) n cap) ps) {j:Nat} (hj:j<ps.length) (y:Int) :
  z1P (w.setCell ⟨g,j*2+1,none⟩ (.int .i64 y)) lo hi (.slice (some ⟨g,0,none⟩) n cap) (ps.set j ((ps.getD j (vn,0)).1,y))/\w.grownBy (w.setCell ⟨g,j*2+1,none⟩ (.int .i64 y)) (some g):=by
 have hn:n=ps.length:=by
  rcases h.1.2 with ⟨e,_⟩ | ⟨_,_,_,e,_⟩ <;> simp at e
  exact e.2.1
 subst hn;have hst:=h.1.stored (j*2+1) (.int .i64 y);rw [cells2_set1 ps j y hj] at hst;exact ⟨⟨by rw [List.length_set]; exact hst.1,h.2.1,by rw [List.length_set]; exact h.2.2.1,Nat.le_trans h.2.2.2 hst.2.size⟩,hst.2⟩
theorem Own.keptB {w w':World} {lo hi:Nat} {v:Value} {xs:List Int} (h:Own w lo hi v xs) {row:Option Nat} (hg:w.grownBy w' row) (hne:v.ownBlock=none\/v.ownBlock≠row):Own w' lo hi v xs:=
 ⟨h.1.kept hg hne,h.2.1,h.2.2.1,Nat.le_trans h.2.2.2 hg.size⟩
theorem v1I {α:Type} {l:List α} {k:Nat} (hk:k<l.length) (x d:α):(l.set k x).getD k d=x:=by simp [List.getD,hk]
theorem k1J {α:Type} {l:List α} {k j:Nat} (hne:j≠k) (x d:α):(l.set k x).getD j d=l.getD j d:=by
 simp only [List.getD];rw [List.getElem?_set_ne (by omega)]
theorem z1V.cellAt1 {w:World} {lo hi:Nat} {g n cap:Nat} {zs:List It} (h:z1V w lo hi (.slice (some ⟨g,0,none⟩) n cap) zs) {k:Nat} (hk:k<zs.length):∃ u,w.cell? ⟨g,k*2+1,none⟩=some u:=by
 obtain ⟨ps,he,hs,hr,ha⟩:=h;exact ⟨_,hs.cell1 (by rw [x1X he]; exact hk)⟩
theorem z1P.frozenAt {w:World} {lo hi:Nat} {g n cap:Nat} {ps:List (Value × Int)} (h:z1P w lo hi (.slice (some ⟨g,0,none⟩) n cap) ps) (j:Nat):w.frozen? ⟨g,j,none⟩=false:=by
 have hn:n=ps.length:=by
  rcases h.1.2 with ⟨e,_⟩ | ⟨_,_,_,e,_⟩ <;> simp at e
  exact e.2.1
 subst hn;exact h.1.frozenAt j
theorem z1V.frozenAt {w:World} {lo hi:Nat} {g n cap:Nat} {zs:List It} (h:z1V w lo hi (.slice (some ⟨g,0,none⟩) n cap) zs) (j:Nat):w.frozen? ⟨g,j,none⟩=false:=by
 obtain ⟨ps,he,hs,hr,ha⟩:=h;exact hs.frozenAt j
theorem q1N {B:Nat} {w w':World} {p:Addr} {v:Option Value} (h:Below B w w') (hp:p.block<B) (hv:w.cell? p=v):w'.cell? p=v:=(h.cell hp).trans hv
theorem z1V.putW {w:World} {lo hi:Nat} {g n cap:Nat} {zs:List It} (h:z1V w lo hi (.slice (some ⟨g,0,none⟩) n cap) zs) {j:Nat} (hj:j<zs.length) (y:Int) :
  z1V (w.setCell ⟨g,j*2+1,none⟩ (.int .i64 y)) lo hi (.slice (some ⟨g,0,none⟩) n cap) (zs.set j ((zs.getD j ([],0)).1,y))/\w.grownBy (w.setCell ⟨g,j*2+1,none⟩ (.int .i64 y)) (some g):=by
 obtain ⟨ps,he,hs,hr,ha⟩:=h;have hl:=x1X he;have hj':j<ps.length:=by omega
 have s1:=hs.stored1 hj' y;have hg:=s1.2;have hne:∀ {lo' hi':Nat} {v:Value} {us:List Int},Own w lo' hi' v us->v.ownBlock=none\/v.ownBlock≠some g:=fun h=>j1G hs h;have hfst:∀ i,((ps.set j ((ps.getD j (vn,0)).1,y)).getD i (vn,0)).1=(ps.getD i (vn,0)).1:=fun i=>by
  by_cases hij:i=j
  ·
   subst hij; rw [v1I hj']
  ·
   rw [k1J hij]
 have hfst2:∀ i,((zs.set j ((zs.getD j ([],0)).1,y)).getD i ([],0)).1=(zs.getD i ([],0)).1:=fun i=>by
  by_cases hij:i=j
  ·
   subst hij; rw [v1I hj]
  ·
   rw [k1J hij]
 refine ⟨⟨_,?_,s1.1,fun i hi'=> ?_,fun i i' b hii hi' hb=> ?_⟩,hg⟩
 ·
  rw [List.map_set,List.map_set,he]
 ·
  rw [hfst,hfst2];have:=hr i (by simpa using hi');exact this.keptB hg (hne this)
 ·
  rw [hfst] at hb ⊢;exact ha i i' b hii (by simpa using hi') hb
def z1Y (w:World) (v:Value) (qs:List (Value × Int)):Prop:=
 qs.length<=140737488355328/\(∀ p∈qs,∃ a n c,p.1=Value.slice a n c)/\∃ (a:Option Addr) (cap:Nat),v = .slice a qs.length cap/\(a=none->cap=0) ∧
  (qs≠[]->∃ b off,a=some ⟨b,off,none⟩/\b<w.heap.size/\∀ j,j<qs.length->w.cell? ⟨b,off+j*2,none⟩=some (qs.getD j (vn,0)).1/\w.cell? ⟨b,off+j*2+1,none⟩=some (.int .i64 (qs.getD j (vn,0)).2))
theorem z1Y.below {w w':World} {v:Value} {qs:List (Value × Int)} (h:z1Y w v qs) (hb:Below w.heap.size w w'):z1Y w' v qs:=by
 obtain ⟨hl,hs,a,cap,rfl,hn,hc⟩:=h;refine ⟨hl,hs,a,cap,rfl,hn,fun hne=> ?_⟩;obtain ⟨b,off,rfl,hbl,hcell⟩:=hc hne;refine ⟨b,off,rfl,Nat.lt_of_lt_of_le hbl hb.size,fun j hj=> ?_⟩;obtain ⟨h1,h2⟩:=hcell j hj;exact ⟨(hb.cell (p:=⟨b,off+j*2,none⟩) hbl).trans h1,(hb.cell (p:=⟨b,off+j*2+1,none⟩) hbl).trans h2⟩
theorem j1J {α:Type} {l:List α} {p d:α} (h:p∈l):∃ j,j<l.length/\l.getD j d=p:=by
 obtain ⟨j,hj,rfl⟩:=List.getElem_of_mem h;exact ⟨j,hj,by simp [List.getD,hj]⟩
theorem z1I.pairs {w:World} {v:Value} {zs:List It} (h:z1I w v zs):∃ qs:List (Value × Int),z1Y w v qs/\qs.map (·.2)=zs.map (·.2)/\∀ j,j<zs.length->z1E w (qs.getD j (vn,0)).1 (zs.getD j ([],0)).1:=by
 obtain ⟨hl,a,cap,rfl,hn,hc⟩:=h;by_cases hx:zs=[]
 ·
  subst hx;exact ⟨[],⟨by simp,fun p hp=>by simp at hp,a,cap,rfl,hn,fun h=>absurd rfl h⟩,rfl,fun j hj=>by simp at hj⟩
 ·
  obtain ⟨b,off,rfl,hbl,hcell⟩:=hc hx;have:∃ f:Nat->Value,∀ j,j<zs.length->w.cell? ⟨b,off+j*2,none⟩=some (f j)/\w.cell? ⟨b,off+j*2+1,none⟩=some (.int .i64 (zs.getD j ([],0)).2)/\z1E w (f j) (zs.getD j ([],0)).1:=by
   classical
   refine ⟨fun j=>if hj:j<zs.length then Classical.choose (hcell j hj) else vn,fun j hj=> ?_⟩;simp only [dif_pos hj];exact Classical.choose_spec (hcell j hj)
  obtain ⟨f,hf⟩:=this;have hlen:((List.range zs.length).map fun j=>(f j,(zs.getD j ([],0)).2)).length=zs.length:=by simp
  have hg:∀ j,j<zs.length->((List.range zs.length).map fun j=>(f j,(zs.getD j ([],0)).2)).getD j (vn,0)=(f j,(zs.getD j ([],0)).2):=fun j hj=>by simp [List.getD,hj]
  refine ⟨(List.range zs.length).map fun j=>(f j,(zs.getD j ([],0)).2),⟨by omega,fun p hp=> ?_,some ⟨b,off,none⟩,cap,by rw [hlen],fun h=>by simp at h,fun _=>⟨b,off,rfl,hbl,fun j hj=> ?_⟩⟩,?_,fun j hj=> ?_⟩
  ·
   obtain ⟨j,hj,rfl⟩:=j1J (d:=(vn,0)) hp;rw [hlen] at hj;rw [hg j hj];exact (hf j hj).2.2.shape
  ·
   rw [hlen] at hj;rw [hg j hj];exact ⟨(hf j hj).1,(hf j hj).2.1⟩
  ·
   apply List.ext_getElem?;intro j;by_cases hj:j<zs.length
   ·
    simp [hj,List.getD]
   ·
    simp [hj]
  ·
   rw [hg j hj];exact (hf j hj).2.2
theorem z1Y.items {w:World} {v:Value} {zs:List It} {qs:List (Value × Int)} (h:z1Y w v qs) (he:qs.map (·.2)=zs.map (·.2)) (hr:∀ j,j<zs.length->z1E w (qs.getD j (vn,0)).1 (zs.getD j ([],0)).1):z1I w v zs:=by
 have hl:=x1X he;obtain ⟨h1,_,a,cap,rfl,hn,hc⟩:=h;refine ⟨by omega,a,cap,by rw [hl],hn,fun hne=> ?_⟩;obtain ⟨b,off,rfl,hbl,hcell⟩:=hc (fun e=>hne (by subst e; exact List.length_eq_zero_iff.1 (by simpa using hl.symm)));refine ⟨b,off,rfl,hbl,fun j hj=> ?_⟩;obtain ⟨h2,h3⟩:=hcell j (by omega);exact ⟨_,h2,by rw [h3,j2A he],hr j hj⟩
theorem z1P.pairs {w:World} {lo hi:Nat} {v:Value} {ps:List (Value × Int)} (h:z1P w lo hi v ps) (hs:∀ p∈ps,∃ a n c,p.1=Value.slice a n c):z1Y w v ps:=by
 refine ⟨h.2.2.1,hs,?_⟩;rcases h.1.2 with ⟨rfl,hn⟩ | ⟨g,cap,cur,rfl,_,hg,_⟩
 ·
  have:ps=[]:=List.length_eq_zero_iff.1 hn;subst this;exact ⟨none,0,rfl,fun _=>rfl,fun h=>absurd rfl h⟩
 ·
  refine ⟨some ⟨g,0,none⟩,cap,rfl,fun h=>by simp at h,fun hne=>⟨g,0,rfl,(Array.getElem?_eq_some_iff.1 hg).1,fun j hj=> ?_⟩⟩;rw [Nat.zero_add];exact ⟨h.cell0 hj,h.cell1 hj⟩
theorem v2B {qs:List (Value × Int)} (hs:∀ p∈qs,∃ a n c,p.1=Value.slice a n c):∀ u∈z1Z qs,u.oneCell'=true:=by
 intro u hu;obtain ⟨p,hp,hu⟩:=List.mem_flatMap.1 hu;obtain ⟨a,n,c,hpc⟩:=hs p hp;simp [hpc] at hu;rcases hu with rfl | rfl <;> rfl
theorem z1K {P:Program} {w:World} {ops:Array Oper} {rest:List Oper} {o:Oper} {a:Act} {Q:Exit->Act->World->Prop} (hgd:o.guard=none) (s x:Operand) (t:TypeId)
  (ho:o.op = .call { callee:=.builtin .append,args:=#[s,x],argTypes:=#[t,t] })
  (base:Nat) (e:TypeId) (i:TypeInfo) (ht:P.underlying t=some (.slice e)) (hi:P.info? e=some i) (hz:i.zero=some (.agg #[.slice none 0 0,.int .i64 0]))
  (hsize:i.size=2) (hby:i.bytes=32)
  (v:Value) (ps:List (Value × Int)) (hs:a.eval s=v) (hown:w.ownsRow base e 2 v ps.length (z1Z ps))
  (vx:Value) (qs:List (Value × Int)) (hx:a.eval x=vx) (hsrc:z1Y w vx qs)
  (hbytes:(ps.length+qs.length)*32<=140737488355328) (hbase:base<=w.heap.size)
  (h:∀ v' w',w'.ownsRow base e 2 v' (ps++qs).length (z1Z (ps++qs))->w.grownBy w' v.ownBlock->(v≠.slice none 0 0->v'≠.slice none 0 0)->wpList P ops Q rest (a.put o.dst v') w'):wpList P ops Q (o :: rest) a w:=by
 obtain ⟨hl,hsl,ad,cap,rfl,hnone,hc⟩:=hsrc;cases ad with
 | none=>
  have hsrc:qs=[]:=by
   by_cases h0:qs=[]
   ·
    exact h0
   ·
    obtain ⟨b,off,hh,_⟩:=hc h0;simp at hh
  subst hsrc;have hcap:=hnone rfl;subst hcap;refine wpList_append_own_none hgd s x t ho base e i 2 ht hi v ps.length (z1Z ps) hs hown hx ?_;refine h v w (by simpa using hown) (v1U _ _) (fun h=>h)
 | some ad=>
  have hnews:∀ j u,(z1Z qs)[j]? = some u->w.cell? (ad.add j)=some u:=by
   intro j u hu;by_cases h0:qs=[]
   ·
    subst h0; simp [z1Z] at hu
   ·
    obtain ⟨b,off,hh,_,hcell⟩:=hc h0;simp at hh;subst hh;have hj:j<qs.length*2:=by
     have:=(List.getElem?_eq_some_iff.1 hu).1;rwa [j1D] at this
    rw [Addr.add_lit];obtain ⟨q,r,hq,hr⟩:∃ q r,j=q*2+r/\r<2:=⟨j / 2,j % 2,by omega,by omega⟩;have hqn:q<qs.length:=by omega
    obtain ⟨h1,h2⟩:=hcell q hqn;rcases Nat.lt_succ_iff_lt_or_eq.1 hr with h | h
    ·
     obtain rfl:r=0:=by omega
     subst hq;rw [Nat.add_zero] at hu ⊢;rw [cells2_get0 _ _ hqn] at hu;rw [h1]; exact hu
    ·
     subst h hq;rw [cells2_get1 _ _ hqn] at hu;rw [<-Nat.add_assoc,h2]; exact hu
  refine wpList_append_own w hgd s x t ho base e i (.agg #[.slice none 0 0,.int .i64 0]) 2 32 ht hi hz hsize hby rfl (by decide) v ps.length (z1Z ps) hs hown ad qs.length cap (z1Z qs) hx (by rw [j1D]) hnews (v2B hsl) (by unfold maxLen; omega) hbytes hbase ?_;intro v' w' h1 h2 h3;rw [<-z2E] at h1;exact h v' w' (by rw [List.length_append]; exact h1) h2 (fun hv hv'=>hv (h3.1 hv').1)
theorem j2K (v:Value) (xs:List Int) (w:World) (h:z1E w v xs) (hlim:xs.length<=8796093022208) :
  Calls Tryz.prog 28 #[v] w fun e w'=> ∃ v',e = .returned v'/\Own w' w.heap.size w'.heap.size v' xs/\Below w.heap.size w w':=by
 obtain ⟨i0,hi,hz0,hz1,hz2⟩:=info_parts infoInt;have hx1:z1E (w.alloc (.cells #[] 3)) v xs:=h.below ((Below.refl _ _).alloc (Nat.le_refl _) _);have ho1:(w.alloc (.cells #[] 3)).ownsRow w.heap.size 3 1 (.slice (some ⟨w.heap.size,0,none⟩) 0 0) 0 []:=World.ownsRow_lit w #[] 0 (Nat.le_refl _) (by unfold maxLen; omega) rfl;obtain ⟨_,a,cap,hv,hnone,hc⟩:=h;cases a with
 | none=>
  have hxs:xs=[]:=by
   by_cases h0:xs=[]
   ·
    exact h0
   ·
    obtain ⟨b,off,hh,_⟩:=hc h0;simp at hh
  subst hxs;have hcap:=hnone rfl;subst hcap;subst hv;clear hx1 ho1 hc hnone;have qn:∀ (w:World) (a:Option Addr) (n c n' c':Nat),(binOp .eql 28 (.slice a n c) (.slice none n' c')).run Tryz.prog w = .ok (.bool a.isNone) w:=fun w a n c n' c'=>Lib.run_eql_slice_nil w _ _ a n c n' c' Tryz.underlying28;go_enter Tryz.func28,Tryz.ntmps28;go_wp2;go_ret;exact ⟨_,rfl,⟨World.ownsRow_nil _ _ _ _,fun k hk=>by simp [Value.ownBlock] at hk,by simp,Nat.le_refl _⟩,Below.refl _ _⟩
 | some ad=>
  clear hc hnone;subst hv;have qn:∀ (w:World) (a:Option Addr) (n c n' c':Nat),(binOp .eql 28 (.slice a n c) (.slice none n' c')).run Tryz.prog w = .ok (.bool a.isNone) w:=fun w a n c n' c'=>Lib.run_eql_slice_nil w _ _ a n c n' c' Tryz.underlying28;go_enter Tryz.func28,Tryz.ntmps28;go_wp2_with (at_builtin; refine z1Q rfl _ _ 28 rfl w.heap.size 3 i0 Tryz.underlying28 hi hz0 hz1 hz2 (.slice (some ⟨w.heap.size,0,none⟩) 0 0) 0 [] rfl ho1 _ xs rfl hx1 (by omega) (by simp) ?_; intro v' w1 hown1 hgrow1 _);have hb1:Below w.heap.size w w1:=((Below.refl _ _).alloc (Nat.le_refl _) _).grown hgrow1 (by simp) (by simp [Value.ownBlock]);have ho2:=x1Y (xs:=xs) (by simpa using hown1) (by omega);clear hown1 hgrow1 hx1 ho1;go_wp2;go_ret;exact ⟨_,rfl,ho2,hb1⟩
theorem v3S (v:Value) (qs:List (Value × Int)) (w:World) (h:z1Y w v qs) (hlim:qs.length<=1099511627776) :
  Calls Tryz.prog 127 #[v] w fun e w'=> ∃ v',e = .returned v'/\z1P w' w.heap.size w'.heap.size v' qs/\Below w.heap.size w w':=by
 obtain ⟨i0,hi,hz0,hz1,hz2⟩:=info_parts infoItem;have hx1:z1Y (w.alloc (.cells #[] 47)) v qs:=h.below ((Below.refl _ _).alloc (Nat.le_refl _) _);have ho1:(w.alloc (.cells #[] 47)).ownsRow w.heap.size 47 2 (.slice (some ⟨w.heap.size,0,none⟩) 0 0) 0 []:=World.ownsRow_lit w #[] 0 (Nat.le_refl _) (by unfold maxLen; omega) rfl;obtain ⟨_,_,a,cap,hv,hnone,hc⟩:=h;cases a with
 | none=>
  have hxs:qs=[]:=by
   by_cases h0:qs=[]
   ·
    exact h0
   ·
    obtain ⟨b,off,hh,_⟩:=hc h0;simp at hh
  subst hxs;have hcap:=hnone rfl;subst hcap;subst hv;clear hx1 ho1 hc hnone;have qn:∀ (w:World) (a:Option Addr) (n c n' c':Nat),(binOp .eql 35 (.slice a n c) (.slice none n' c')).run Tryz.prog w = .ok (.bool a.isNone) w:=fun w a n c n' c'=>Lib.run_eql_slice_nil w _ _ a n c n' c' Tryz.underlying35;go_enter Tryz.func127,Tryz.ntmps127;go_wp2;go_ret;exact ⟨_,rfl,⟨World.ownsRow_nil _ _ _ _,fun k hk=>by simp [Value.ownBlock] at hk,by simp,Nat.le_refl _⟩,Below.refl _ _⟩
 | some ad=>
  clear hc hnone;subst hv;have qn:∀ (w:World) (a:Option Addr) (n c n' c':Nat),(binOp .eql 35 (.slice a n c) (.slice none n' c')).run Tryz.prog w = .ok (.bool a.isNone) w:=fun w a n c n' c'=>Lib.run_eql_slice_nil w _ _ a n c n' c' Tryz.underlying35;go_enter Tryz.func127,Tryz.ntmps127;go_wp2_with (at_builtin; refine z1K rfl _ _ 35 rfl w.heap.size 47 i0 Tryz.underlying35 hi hz0 hz1 hz2 (.slice (some ⟨w.heap.size,0,none⟩) 0 0) [] rfl ho1 _ qs rfl hx1 (by simp; omega) (by simp) ?_; intro v' w1 hown1 hgrow1 _);have hb1:Below w.heap.size w w1:=((Below.refl _ _).alloc (Nat.le_refl _) _).grown hgrow1 (by simp) (by simp [Value.ownBlock]);have ho2:=v1C (ps:=qs) (by simpa using hown1) (by omega);clear hown1 hgrow1 hx1 ho1;go_wp2;go_ret;exact ⟨_,rfl,ho2,hb1⟩
theorem q2N {P:Program} {ops:Array Oper} {o:Oper} {a:Act} {w:World} {K:Act->World->Prop} {Q:Exit->Act->World->Prop} {E:Prop}
  (hg:o.guard=none) (s x:Operand) (t:TypeId) (hop:o.op=Op.call { callee:=Callee.builtin Builtin.append,args:=#[s,x],argTypes:=#[t,t] })
  (base:Nat) (e:TypeId) (i:TypeInfo) (ht:P.underlying t=some (.slice e)) (hi:P.info? e=some i) (hz:i.zero=some (.agg #[.slice none 0 0,.int .i64 0]))
  (hsize:i.size=2) (hby:i.bytes=32)
  (v:Value) (ps:List (Value × Int)) (hs:a.eval s=v) (hown:w.ownsRow base e 2 v ps.length (z1Z ps))
  (ad:Addr) (m c:Nat) (qs:List (Value × Int)) (hx:a.eval x = .slice (some ad) m c) (hm:qs.length=m) (hnews:∀ j u,(z1Z qs)[j]? = some u->w.cell? (ad.add j)=some u) (hsl:∀ p∈qs,∃ a n c,p.1=Value.slice a n c)
  (hbytes:(ps.length+qs.length)*32<=140737488355328) (hbase:base<=w.heap.size)
  (hK:∀ v' w',w'.ownsRow base e 2 v' (ps++qs).length (z1Z (ps++qs))->w.grownBy w' v.ownBlock->K (a.put o.dst v') w') :
  if Region.wanted o (yielded ops a.tmps)=true then Oper.wp P o a w K Q else E:=by
 have hw:Region.wanted o (yielded ops a.tmps)=true:=by simp [Region.wanted,hg]
 rw [if_pos hw];subst hm;obtain ⟨v',w',hrun,r1,r2,_⟩:=run_append_own (P:=P) w base t o.type e i (.agg #[.slice none 0 0,.int .i64 0]) 2 32 ht hi hz hsize hby rfl (by decide) v ps.length (z1Z ps) hown ad qs.length c (z1Z qs) (by rw [j1D]) hnews (v2B hsl) (by unfold maxLen; omega) hbytes hbase;unfold Oper.wp;simp [execOp,hop,resolve,invoke,builtin,hs,hx,hrun,Result.andThen];rw [<-z2E] at r1;exact hK v' w' (by rw [List.length_append]; exact r1) r2
theorem q4K (v:Value) (y:Int):z1Z [(v,y)]=[v,.int .i64 y]:=rfl
theorem q5L (w:World) (t:TypeId) (v:Value) (y:Int):∀ j u,(z1Z [(v,y)])[j]? = some u->(w.alloc (.cells #[v,.int .i64 y] t)).cell? ((⟨w.heap.size,0,none⟩:Addr).add j)=some u:=by
 intro j u hu;rw [q4K] at hu;rw [Addr.add_lit];match j,hu with
 | 0,hu=>simp at hu; subst hu; simp [go_sem]
 | 1,hu=>simp at hu; subst hu; simp [go_sem]
 | j+2,hu=>simp at hu
theorem z1V.snoc {w w':World} {lo hi:Nat} {v v' rv:Value} {zs:List It} {ps:List (Value × Int)} {xs:List Int} {y:Int} (he:ps.map (·.2)=zs.map (·.2)) (hs:z1P w lo hi v ps)
  (hr:∀ j,j<ps.length->Own w lo hi (ps.getD j (vn,0)).1 (zs.getD j ([],0)).1)
  (ha:∀ i j k,i<j->j<ps.length->(ps.getD i (vn,0)).1.ownBlock=some k->(ps.getD j (vn,0)).1.ownBlock≠some k)
  (hrow:Own w lo w.heap.size rv xs) (hf:∀ b,rv.ownBlock=some b->hi<=b)
  (hown:w'.ownsRow lo 47 2 v' (ps++[(rv,y)]).length (z1Z (ps++[(rv,y)]))) (hg:w.grownBy w' v.ownBlock) (hlim:ps.length<140737488355328) :
  z1V w' lo w'.heap.size v' (zs++[(xs,y)]):=by
 have hl:=x1X he;refine ⟨ps++[(rv,y)],by simp [he],v1C hown (by simp; omega),fun j hj=> ?_,fun i j k hij hj hk=> ?_⟩
 ·
  by_cases hjl:j<ps.length
  ·
   have e1:(ps++[(rv,y)]).getD j (vn,0)=ps.getD j (vn,0):=by simp [List.getD,List.getElem?_append_left hjl]
   have e2:(zs++[(xs,y)]).getD j ([],0)=zs.getD j ([],0):=by simp [List.getD,List.getElem?_append_left (show j<zs.length by omega)]
   rw [e1,e2];exact ((hr j hjl).keptB hg (j1G hs (hr j hjl))).wide (Nat.le_refl _) (Nat.le_trans hs.2.2.2 hg.size) (Nat.le_refl _)
  ·
   have hj':j=ps.length:=by simp at hj; omega
   subst hj';have e1:(ps++[(rv,y)]).getD ps.length (vn,0)=(rv,y):=by simp [List.getD]
   have e2:(zs++[(xs,y)]).getD ps.length ([],0)=(xs,y):=by rw [hl]; simp [List.getD]
   rw [e1,e2];exact (hrow.keptB hg (j1G hs hrow)).wide (Nat.le_refl _) hg.size (Nat.le_refl _)
 ·
  have hil:i<ps.length:=by simp at hj; omega
  have e0:(ps++[(rv,y)]).getD i (vn,0)=ps.getD i (vn,0):=by simp [List.getD,List.getElem?_append_left hil]
  rw [e0] at hk;by_cases hjl:j<ps.length
  ·
   have e1:(ps++[(rv,y)]).getD j (vn,0)=ps.getD j (vn,0):=by simp [List.getD,List.getElem?_append_left hjl]
   rw [e1];exact ha i j k hij hjl hk
  ·
   have hj':j=ps.length:=by simp at hj; omega
   subst hj';have e1:(ps++[(rv,y)]).getD ps.length (vn,0)=(rv,y):=by simp [List.getD]
   rw [e1];intro hk';have h1:=hf k hk';have h2:=(hr i hil).2.1 k hk;omega
theorem x2D (w:World) (t:TypeId) {rv:Value} (y:Int) (hs:∃ a n c,rv=Value.slice a n c):z1Y (w.alloc (.cells #[rv,.int .i64 y] t)) (.slice (some ⟨w.heap.size,0,none⟩) 1 1) [(rv,y)]:=by
 refine ⟨by simp,fun p hp=>by simp at hp; subst hp; exact hs,some ⟨w.heap.size,0,none⟩,1,rfl,fun h=>by simp at h,fun _=>⟨w.heap.size,0,rfl,by simp,fun j hj=> ?_⟩⟩;obtain rfl:j=0:=by simp at hj; omega
 simp [go_sem]
theorem z1V.ready {w:World} {lo hi lo':Nat} {v rv:Value} {zs:List It} {xs:List Int} (y:Int) (h:z1V w lo hi v zs) (hrow:Own w lo' w.heap.size rv xs) (h1:hi<=lo') (h2:lo<=lo') (h3:lo<=w.heap.size) (hlim:zs.length<=1099511627776) :
  ∃ ps:List (Value × Int),ps.length=zs.length/\(w.alloc (.cells #[rv,.int .i64 y] 47)).ownsRow lo 47 2 v ps.length (z1Z ps)/\z1Y (w.alloc (.cells #[rv,.int .i64 y] 47)) (.slice (some ⟨w.heap.size,0,none⟩) 1 1) [(rv,y)] ∧
   ∀ v' w',w'.ownsRow lo 47 2 v' (ps++[(rv,y)]).length (z1Z (ps++[(rv,y)]))->(w.alloc (.cells #[rv,.int .i64 y] 47)).grownBy w' v.ownBlock->z1V w' lo w'.heap.size v' (zs++[(xs,y)])/\Below lo w w':=by
 obtain ⟨ps,he,hs,hr,ha⟩:=h;have hl:=x1X he;have hb:=z1C (w:=w) (.cells #[rv,.int .i64 y] 47);have hhi:=hs.2.2.2;refine ⟨ps,hl,(hs.keep (hb.mono hhi)).1,x2D w _ y hrow.ints.shape,fun v' w' ho hg=>⟨?_,?_⟩⟩
 ·
  refine z1V.snoc he (hs.keep (hb.mono hhi)) (fun j hj=>(hr j hj).keep (hb.mono hhi)) ha ((hrow.keep' hb).wide h2 hb.size (Nat.le_refl _)) (fun b hb'=> ?_) ho hg (by omega);have:=(hrow.1.lt b hb').1;omega
 ·
  refine (hb.mono h3).grown hg (by simp; omega) (fun k hk=>(hs.1.lt k hk).1)
theorem v1B {zs:List It} (h:q1G zs=true):zs.length<=100:=by
 unfold q1G at h;simp at h;exact h.1
theorem j1S {zs:List It} (h:q1G zs=true) {k:Nat} (hk:k<zs.length):z1R (zs.getD k ([],0)).1=true/\wB (zs.getD k ([],0)).2=true:=by
 unfold q1G at h;rw [Bool.and_eq_true,List.all_eq_true] at h;have:=h.2 k (List.mem_range.2 hk);unfold q2B at this;rw [Bool.and_eq_true,Bool.and_eq_true] at this;exact this.1
theorem k1Z {xs:List Int} (h:z1R xs=true):xs.length<=6:=by
 unfold z1R at h;simp at h;exact h.1.2
theorem zOk_mem {zs:List It} (h:q1G zs=true) {p:It} (hp:p∈zs):p.1.length<=6:=by
 obtain ⟨j,hj,rfl⟩:=j1J (d:=([],0)) hp;exact k1Z (j1S h hj).1
theorem q1D (w:World) (lo:Nat):z1V w lo w.heap.size (.slice none 0 0) []:=
 ⟨[],rfl,⟨World.ownsRow_nil _ _ _ _,fun k hk=>by simp [Value.ownBlock] at hk,by simp,Nat.le_refl _⟩,fun j hj=>by simp at hj,fun i j k _ hj=>by simp at hj⟩
theorem z1T (w:World):z1V (w.alloc (.cells #[] 47)) w.heap.size (w.alloc (.cells #[] 47)).heap.size (.slice (some ⟨w.heap.size,0,none⟩) 0 0) []:=
 ⟨[],rfl,v1C (n:=0) (World.ownsRow_lit w #[] 0 (Nat.le_refl _) (by unfold maxLen; omega) rfl) (by simp),fun j hj=>by simp at hj,fun i j k _ hj=>by simp at hj⟩
theorem z1V.shape {w:World} {lo hi:Nat} {v:Value} {zs:List It} (h:z1V w lo hi v zs):∃ a cap,v = .slice a zs.length cap:=by
 obtain ⟨ps,he,hs,_⟩:=h;rw [<-x1X he];rcases hs.1.2 with ⟨rfl,h0⟩ | ⟨g,cap,cur,rfl,_⟩
 ·
  exact ⟨none,0,by rw [h0]⟩
 ·
  exact ⟨_,_,rfl⟩
theorem v1X {v:Value} {xs:List Int} {c:Bool} (hr:z1R xs=c) {w:World} (h:z1E w v xs):Calls Tryz.prog 148 #[v] w fun e w'=>e = .returned (.bool c)/\w'=w:=hr ▸ q1B v xs w h
theorem k1C {v:Value} {xs:List Int} {c:Bool} (hr:z1R xs=c) {w:World} (h:z1E w v xs):Calls Tryz.prog 47 #[v] w fun e w'=>e = .returned (.bool c)/\w'=w:=hr ▸ j1C v xs w h
theorem x1J {v v2:Value} {xs ys:List Int} {c:Bool} (hr:j1A xs ys=c) {w:World} (h:z1E w v xs) (h2:z1E w v2 ys):Calls Tryz.prog 143 #[v,v2] w fun e w'=>e = .returned (.bool c)/\k1S w w':=hr ▸ k3Z v v2 xs ys w h h2
theorem x2J {v v2:Value} {xs ys:List Int} {c:Bool} (hr:j1A xs ys=c) {w:World} (h:z1E w v xs) (h2:z1E w v2 ys):Calls Tryz.prog 49 #[v,v2] w fun e w'=>e = .returned (.bool c)/\k1S w w':=hr ▸ z4Z v v2 xs ys w h h2
theorem z4Q {n:Int} {c:Bool} (hr:wB n=c) {w:World}:Calls Tryz.prog 149 #[.int .i64 n] w fun e w'=>e = .returned (.bool c)/\w'=w:=hr ▸ l2W_any n w
theorem k1L {n:Int} {c:Bool} (hr:wB n=c) {w:World}:Calls Tryz.prog 48 #[.int .i64 n] w fun e w'=>e = .returned (.bool c)/\w'=w:=hr ▸ x3T n w
theorem q4X (b off cap:Nat) (zs:List It) (w:World) (hpos:0<zs.length) (hlim:zs.length<=140737488355328) (hbw:b<w.heap.size)
  (hc:∀ j,j<zs.length->∃ rv,w.cell? ⟨b,off+j*2,none⟩=some rv/\w.cell? ⟨b,off+j*2+1,none⟩=some (.int .i64 (zs.getD j ([],0)).2)/\z1E w rv (zs.getD j ([],0)).1) :
  Calls Tryz.prog 107 #[.slice (some ⟨b,off,none⟩) zs.length cap] w fun e w'=>e = .returned (.bool (q1G zs))/\k1S w w':=by
 obtain ⟨n,hn⟩:∃ n,n=zs.length:=⟨_,rfl⟩;have HN:Hid (n=zs.length):=hn;rw [<-hn] at hpos hlim hc ⊢;clear hn;by_cases h100:n<=100
 ·
  go_enter Tryz.func107,Tryz.ntmps107;go_wp2;go_loopw [3] (fun i wr=> ∃ k:Nat,k<=n/\i = .int .i64 k/\Hid (k1S w wr)/\Hid (∀ j,j<k->q2B zs j=true)) (fun i _=>n - (intOf i).toNat)
  case atStart=>exact ⟨0,Nat.zero_le _,rfl,k1S.refl _,fun j hj=>by omega⟩
  case round=>
   obtain ⟨k,hk,rfl,HW,HS⟩:=hrel;by_cases hlt:k<n
   ·
    have HB:=HW.out.below;obtain ⟨rv,hrv0,hwt0,hix0⟩:=hc k hlt;have hrv:=(HB.cell (p:=⟨b,off+k*2,none⟩) hbw).trans hrv0;have hwt:=(HB.cell (p:=⟨b,off+k*2+1,none⟩) hbw).trans hwt0;have hix:=hix0.below HB;clear hrv0 hwt0 hix0;obtain ⟨x,HX⟩:∃ x,Hid (x=(zs.getD k ([],0)).1):=⟨_,rfl⟩;obtain ⟨y,HY⟩:∃ y,Hid (y=(zs.getD k ([],0)).2):=⟨_,rfl⟩;rw [<-HX.out] at hix;rw [<-HY.out] at hwt;cases hr:z1R x with
    | false=>
     clear hc HB;go_wp2;go_quiet (first | (go_at_call 148; exact Calls.quiet_of_same (v1X hr (hix.drewN _))))
     go_wp2;go_ret;exact ⟨z1N (x2P (by rw [<-HN.out]; exact hlt) (by unfold q2B; rw [<-HX.out,hr]; rfl)).symm,HW.out.more _⟩
    | true=>
     cases hw:wB y with
     | false=>
      clear hc HB;go_wp2;go_quiet (first | (go_at_call 148; exact Calls.quiet_of_same (v1X hr (hix.drewN _))) | (go_at_call 149; exact Calls.quiet_of_same (z4Q hw)))
      go_wp2;go_ret;exact ⟨z1N (x2P (by rw [<-HN.out]; exact hlt) (by unfold q2B; rw [<-HY.out,hw,Bool.and_false]; rfl)).symm,HW.out.more _⟩
     | true=>
      by_cases hk0:k=0
      ·
       have HK:Hid (k=0):=hk0;have hd:decide (0<k)=false:=by rw [decide_eq_false_iff_not]; omega
       clear hc HB hk0;go_wp2;go_quiet (first | (go_at_call 148; exact Calls.quiet_of_same (v1X hr (hix.drewN _))) | (go_at_call 149; exact Calls.quiet_of_same (z4Q hw)))
       go_wp2;go_roundw
       case rel=>exact ⟨k+1,by omega,by go_num,HW.out.more _,fun j hj=>by
        obtain rfl:j=k:=by have:=HK.out; omega
        unfold q2B; rw [<-HX.out,<-HY.out,hr,hw,HK.out]; rfl⟩
       case measure=>simp [intOf]; omega
      ·
       obtain ⟨p,rfl⟩:∃ p,k=p+1:=⟨k - 1,by omega⟩;obtain ⟨rv',hrv0',_,hix0'⟩:=hc p (by omega);have hrv':=(HB.cell (p:=⟨b,off+p*2,none⟩) hbw).trans hrv0';have hix':=hix0'.below HB;clear hrv0' hix0' hc HB;obtain ⟨x',HX'⟩:∃ x,Hid (x=(zs.getD p ([],0)).1):=⟨_,rfl⟩;rw [<-HX'.out] at hix';cases hle:j1A x' x with
       | false=>
        go_wp2;go_quiet (first | (go_at_call 148; exact Calls.quiet_of_same (v1X hr (hix.drewN _))) | (go_at_call 149; exact Calls.quiet_of_same (z4Q hw)) | (go_at_call 143; exact Calls.quiet_of (x1J hle (hix'.drewN _) (hix.drewN _))))
        go_wp2;go_ret;exact ⟨z1N (x2P (by rw [<-HN.out]; exact hlt) (by unfold q2B; rw [Nat.add_sub_cancel,<-HX.out,<-HX'.out,hle]; simp)).symm,HW.out.more _⟩
       | true=>
        go_wp2;go_quiet (first | (go_at_call 148; exact Calls.quiet_of_same (v1X hr (hix.drewN _))) | (go_at_call 149; exact Calls.quiet_of_same (z4Q hw)) | (go_at_call 143; exact Calls.quiet_of (x1J hle (hix'.drewN _) (hix.drewN _))))
        go_wp2;go_roundw
        case rel=>exact ⟨p+1+1,by omega,by go_num,HW.out.more _,fun j hj=>by
         rcases Nat.lt_succ_iff_lt_or_eq.1 hj with h | h
         ·
          exact HS.out j h
         ·
          subst h; unfold q2B; rw [Nat.add_sub_cancel,<-HX.out,<-HY.out,<-HX'.out,hr,hw,hle]; simp⟩
        case measure=>simp [intOf]; omega
   ·
    have e:k=n:=by omega
    subst e;clear hc;go_wp2;go_ret;exact ⟨z1N (k3Q (by rw [<-HN.out]; exact h100) (by rw [<-HN.out]; exact HS.out)).symm,HW.out⟩
 ·
  go_enter Tryz.func107,Tryz.ntmps107;go_wp2;go_ret;exact ⟨z1N (k5A (by rw [<-HN.out]; exact h100)).symm,k1S.refl _⟩
theorem q4Y (a:Option Addr) (cap:Nat) (w:World) :
  Calls Tryz.prog 107 #[.slice a 0 cap] w fun e w'=>e = .returned (.bool (q1G []))/\k1S w w':=by
 go_enter Tryz.func107,Tryz.ntmps107;go_wp2;refine wp_loop_rounds 1 ?_;rw [rounds_succ];go_wp2;go_ret;exact ⟨rfl,k1S.refl _⟩
theorem z1M (v:Value) (zs:List It) (w:World) (h:z1I w v zs) :
  Calls Tryz.prog 107 #[v] w fun e w'=>e = .returned (.bool (q1G zs))/\k1S w w':=by
 rcases h.cases with ⟨a,cap,rfl,rfl⟩ | ⟨b,off,cap,hpos,hlim,rfl,hbw,hc⟩
 ·
  exact q4Y a cap w
 ·
  exact q4X b off cap zs w hpos hlim hbw hc
theorem x4K (b off cap:Nat) (zs:List It) (w:World) (hpos:0<zs.length) (hlim:zs.length<=140737488355328) (hbw:b<w.heap.size)
  (hc:∀ j,j<zs.length->∃ rv,w.cell? ⟨b,off+j*2,none⟩=some rv/\w.cell? ⟨b,off+j*2+1,none⟩=some (.int .i64 (zs.getD j ([],0)).2)/\z1E w rv (zs.getD j ([],0)).1) :
  Calls Tryz.prog 15 #[.slice (some ⟨b,off,none⟩) zs.length cap] w fun e w'=>e = .returned (.bool (q1G zs))/\Below w.heap.size w w':=by
 obtain ⟨n,hn⟩:∃ n,n=zs.length:=⟨_,rfl⟩;have HN:Hid (n=zs.length):=hn;rw [<-hn] at hpos hlim hc ⊢;clear hn;by_cases h100:n<=100
 ·
  go_enter Tryz.func15,Tryz.ntmps15;go_wp2;go_loopw [10] (fun i wr=> ∃ k:Nat,k<=n/\i = .int .i64 k/\Hid (Below w.heap.size w wr)/\Hid (∀ j,j<k->q2B zs j=true)) (fun i _=>n - (intOf i).toNat)
  case atStart=>exact ⟨0,Nat.zero_le _,rfl,Below.refl _ _,fun j hj=>by omega⟩
  case round=>
   obtain ⟨k,hk,rfl,HW,HS⟩:=hrel;by_cases hlt:k<n
   ·
    have HB:=HW.out;obtain ⟨rv,hrv0,hwt0,hix0⟩:=hc k hlt;have hrv:=(HB.cell (p:=⟨b,off+k*2,none⟩) hbw).trans hrv0;have hwt:=(HB.cell (p:=⟨b,off+k*2+1,none⟩) hbw).trans hwt0;have hix:=hix0.below HB;have hbr:b<wr.heap.size:=Nat.lt_of_lt_of_le hbw HB.size;clear hrv0 hwt0 hix0;obtain ⟨x,HX⟩:∃ x,Hid (x=(zs.getD k ([],0)).1):=⟨_,rfl⟩;obtain ⟨y,HY⟩:∃ y,Hid (y=(zs.getD k ([],0)).2):=⟨_,rfl⟩;rw [<-HX.out] at hix;rw [<-HY.out] at hwt;obtain ⟨ra,rn,rc,rfl⟩:=hix.shape;cases hr:z1R x with
    | false=>
     clear hc HB;go_wp2_with (go_at_call 47; refine (k1C hr (hix.alloc _)).mono ?_; rintro e w' ⟨rfl,rfl⟩);go_ret;exact ⟨z1N (x2P (by rw [<-HN.out]; exact hlt) (by unfold q2B; rw [<-HX.out,hr]; rfl)).symm,z1D HW.out (z1C _)⟩
    | true=>
     cases hw:wB y with
     | false=>
      clear hc HB;go_wp2_with (first | (go_at_call 47; refine (k1C hr (hix.alloc _)).mono ?_; rintro e w' ⟨rfl,rfl⟩) | (go_at_call 48; refine (k1L hw).mono ?_; rintro e w' ⟨rfl,rfl⟩));go_ret;exact ⟨z1N (x2P (by rw [<-HN.out]; exact hlt) (by unfold q2B; rw [<-HY.out,hw,Bool.and_false]; rfl)).symm,z1D HW.out (z1C _)⟩
     | true=>
      by_cases hk0:k=0
      ·
       have HK:Hid (k=0):=hk0;have hd:decide (0<k)=false:=by rw [decide_eq_false_iff_not]; omega
       clear hc HB hk0;go_wp2_with (first | (go_at_call 47; refine (k1C hr (hix.alloc _)).mono ?_; rintro e w' ⟨rfl,rfl⟩) | (go_at_call 48; refine (k1L hw).mono ?_; rintro e w' ⟨rfl,rfl⟩));go_quiet (fail)
       go_wp2;go_roundw
       case rel=>exact ⟨k+1,by omega,by go_num,z1D HW.out (z1D (z1C _) (below_drewN (Below.refl _ _) _)),fun j hj=>by
        obtain rfl:j=k:=by have:=HK.out; omega
        unfold q2B; rw [<-HX.out,<-HY.out,hr,hw,HK.out]; rfl⟩
       case measure=>simp [intOf]; omega
      ·
       obtain ⟨p,rfl⟩:∃ p,k=p+1:=⟨k - 1,by omega⟩;obtain ⟨rv',hrv0',_,hix0'⟩:=hc p (by omega);have hrv':=(HB.cell (p:=⟨b,off+p*2,none⟩) hbw).trans hrv0';have hix':=hix0'.below HB;clear hrv0' hix0' hc HB;obtain ⟨x',HX'⟩:∃ x,Hid (x=(zs.getD p ([],0)).1):=⟨_,rfl⟩;rw [<-HX'.out] at hix';cases hle:j1A x' x with
       | false=>
        go_wp2_with (first | (go_at_call 47; refine (k1C hr (hix.alloc _)).mono ?_; rintro e w' ⟨rfl,rfl⟩) | (go_at_call 48; refine (k1L hw).mono ?_; rintro e w' ⟨rfl,rfl⟩));go_quiet (first | (go_at_call 49; exact Calls.quiet_of (x2J hle ((hix'.alloc _).drewN _) ((hix.alloc _).drewN _))))
        go_wp2;go_ret;exact ⟨z1N (x2P (by rw [<-HN.out]; exact hlt) (by unfold q2B; rw [Nat.add_sub_cancel,<-HX.out,<-HX'.out,hle]; simp)).symm,z1D HW.out (z1D (z1C _) (below_drewN (Below.refl _ _) _))⟩
       | true=>
        go_wp2_with (first | (go_at_call 47; refine (k1C hr (hix.alloc _)).mono ?_; rintro e w' ⟨rfl,rfl⟩) | (go_at_call 48; refine (k1L hw).mono ?_; rintro e w' ⟨rfl,rfl⟩));go_quiet (first | (go_at_call 49; exact Calls.quiet_of (x2J hle ((hix'.alloc _).drewN _) ((hix.alloc _).drewN _))))
        go_wp2;go_roundw
        case rel=>exact ⟨p+1+1,by omega,by go_num,z1D HW.out (z1D (z1C _) (below_drewN (Below.refl _ _) _)),fun j hj=>by
         rcases Nat.lt_succ_iff_lt_or_eq.1 hj with h | h
         ·
          exact HS.out j h
         ·
          subst h; unfold q2B; rw [Nat.add_sub_cancel,<-HX.out,<-HY.out,<-HX'.out,hr,hw,hle]; simp⟩
        case measure=>simp [intOf]; omega
   ·
    have e:k=n:=by omega
    subst e;clear hc;go_wp2;go_ret;exact ⟨z1N (k3Q (by rw [<-HN.out]; exact h100) (by rw [<-HN.out]; exact HS.out)).symm,HW.out⟩
 ·
  go_enter Tryz.func15,Tryz.ntmps15;go_wp2;go_ret;exact ⟨z1N (k5A (by rw [<-HN.out]; exact h100)).symm,Below.refl _ _⟩
theorem x4L (a:Option Addr) (cap:Nat) (w:World) :
  Calls Tryz.prog 15 #[.slice a 0 cap] w fun e w'=>e = .returned (.bool (q1G []))/\Below w.heap.size w w':=by
 go_enter Tryz.func15,Tryz.ntmps15;go_wp2;refine wp_loop_rounds 1 ?_;rw [rounds_succ];go_wp2;go_ret;exact ⟨rfl,Below.refl _ _⟩
theorem z1O (v:Value) (zs:List It) (w:World) (h:z1I w v zs) :
  Calls Tryz.prog 15 #[v] w fun e w'=>e = .returned (.bool (q1G zs))/\Below w.heap.size w w':=by
 rcases h.cases with ⟨a,cap,rfl,rfl⟩ | ⟨b,off,cap,hpos,hlim,rfl,hbw,hc⟩
 ·
  exact x4L a cap w
 ·
  exact x4K b off cap zs w hpos hlim hbw hc
theorem v1D {v v2:Value} {xs ys:List Int} {c:Bool} (hr:q1Z xs ys=c) {w:World} (h:z1E w v xs) (h2:z1E w v2 ys):Calls Tryz.prog 144 #[v,v2] w fun e w'=>e = .returned (.bool c)/\k1S w w':=hr ▸ k2F v v2 xs ys w h h2
theorem x2I {v v2:Value} {xs ys:List Int} {c:Bool} (hr:q1Z xs ys=c) {w:World} (h:z1E w v xs) (h2:z1E w v2 ys):Calls Tryz.prog 69 #[v,v2] w fun e w'=>e = .returned (.bool c)/\k1S w w':=hr ▸ k2O v v2 xs ys w h h2
theorem z6P {p q:It} (h1:p.2=q.2) (h2:q1Z p.1 q.1=true):p=q:=by
 rw [j2B] at h2;exact Prod.ext (of_decide_eq_true h2) h1
theorem x5N {p q:It} (h2:q1Z p.1 q.1=false):p≠q:=by
 intro e;subst e;rw [j4F] at h2;simp at h2
def zsB (zs ys:List It):Bool:=decide (zs=ys)
theorem q3M (zs:List It):zsB zs zs=true:=by simp [zsB]
theorem zsB_of (xs ys:List It) (hl:xs.length=ys.length) (h:∀ j,j<xs.length->xs.getD j ([],0)=ys.getD j ([],0)):zsB xs ys=true:=by
 unfold zsB;rw [decide_eq_true_iff];apply List.ext_getElem hl;intro j h1 h2;have:=h j h1;simpa [List.getD,h1,h2] using this
theorem zsB_len (xs ys:List It) (hl:xs.length≠ys.length):zsB xs ys=false:=by
 unfold zsB;rw [decide_eq_false_iff_not];intro h; exact hl (by rw [h])
theorem zsB_at (xs ys:List It) (j:Nat) (h:xs.getD j ([],0)≠ys.getD j ([],0)):zsB xs ys=false:=by
 unfold zsB;rw [decide_eq_false_iff_not];intro e; exact h (by rw [e])
theorem j4G (a:Option Addr) (n cap:Nat) (y:Int) (xs:List Int) (a2:Option Addr) (n2 cap2:Nat) (y2:Int) (xs2:List Int) (w:World) (h:z1E w (.slice a n cap) xs) (h2:z1E w (.slice a2 n2 cap2) xs2) :
  Calls Tryz.prog 26 #[.agg #[.slice a n cap,.int .i64 y],.agg #[.slice a2 n2 cap2,.int .i64 y2]] w fun e w'=> ∃ c,e = .returned (.bool c)/\(c=true->(xs,y)=(xs2,y2))/\(c=false->(xs,y)≠(xs2,y2))/\Below w.heap.size w w':=by
 have ha:=(h.alloc (.cells #[.slice a n cap,.int .i64 y] 47)).alloc (.cells #[.slice a2 n2 cap2,.int .i64 y2] 47);have ha2:=(h2.alloc (.cells #[.slice a n cap,.int .i64 y] 47)).alloc (.cells #[.slice a2 n2 cap2,.int .i64 y2] 47);clear h h2;by_cases hy:y=y2
 ·
  have hne:(y==y2)=true:=by simp [hy]
  have HY:Hid (y=y2):=hy;clear hy;cases hs:q1Z xs xs2 with
  | false=>
   go_enter Tryz.func26,Tryz.ntmps26;go_wp2_with fail;refine (x2I hs ha ha2).mono ?_;rintro e w1 ⟨rfl,hb1⟩;clear ha ha2;go_wp2;go_ret;exact ⟨false,rfl,fun h=>by simp at h,fun _=>x5N hs,z1D (z1D (z1C _) (z1C _)) hb1.below⟩
  | true=>
   go_enter Tryz.func26,Tryz.ntmps26;go_wp2_with fail;refine (x2I hs ha ha2).mono ?_;rintro e w1 ⟨rfl,hb1⟩;clear ha ha2;go_wp2;go_ret;exact ⟨true,rfl,fun _=>z6P HY.out hs,fun h=>by simp at h,z1D (z1D (z1C _) (z1C _)) hb1.below⟩
 ·
  have hne:(y==y2)=false:=by simp [hy]
  go_enter Tryz.func26,Tryz.ntmps26;go_wp2;go_ret;exact ⟨false,rfl,fun h=>by simp at h,fun _ e=>hy (by simpa using congrArg Prod.snd e),z1D (z1C _) (z1C _)⟩
theorem v3N (b off cap b2 off2 cap2:Nat) (zs ys:List It) (w:World) (hpos:0<zs.length) (hlim:zs.length<=140737488355328) (hlen:zs.length=ys.length) (hbw:b<w.heap.size) (hbw2:b2<w.heap.size)
  (hc:∀ j,j<zs.length->∃ rv,w.cell? ⟨b,off+j*2,none⟩=some rv/\w.cell? ⟨b,off+j*2+1,none⟩=some (.int .i64 (zs.getD j ([],0)).2)/\z1E w rv (zs.getD j ([],0)).1)
  (hc2:∀ j,j<zs.length->∃ rv,w.cell? ⟨b2,off2+j*2,none⟩=some rv/\w.cell? ⟨b2,off2+j*2+1,none⟩=some (.int .i64 (ys.getD j ([],0)).2)/\z1E w rv (ys.getD j ([],0)).1) :
  Calls Tryz.prog 25 #[.slice (some ⟨b,off,none⟩) zs.length cap,.slice (some ⟨b2,off2,none⟩) zs.length cap2,.func (.func 26) #[] #[]] w fun e w'=>e = .returned (.bool (zsB zs ys))/\Below w.heap.size w w':=by
 obtain ⟨n,hn⟩:∃ n,n=zs.length:=⟨_,rfl⟩;have HN:Hid (n=zs.length):=hn;have HL:Hid (zs.length=ys.length):=hlen;rw [<-hn] at hpos hlim hc hc2 ⊢;clear hn hlen;go_enter Tryz.func25,Tryz.ntmps25;go_wp2;go_loopw [17] (fun i wr=> ∃ k:Nat,k<=n/\i = .int .i64 k/\Hid (Below w.heap.size w wr)/\Hid (∀ j,j<k->zs.getD j ([],0)=ys.getD j ([],0))) (fun i _=>n - (intOf i).toNat)
 case atStart=>exact ⟨0,Nat.zero_le _,rfl,Below.refl _ _,fun j hj=>by omega⟩
 case round=>
  obtain ⟨k,hk,rfl,HW,HS⟩:=hrel;by_cases hlt:k<n
  ·
   have HB:=HW.out;obtain ⟨rv,hrv0,hwt0,hix0⟩:=hc k hlt;have hrv:=(HB.cell (p:=⟨b,off+k*2,none⟩) hbw).trans hrv0;have hwt:=(HB.cell (p:=⟨b,off+k*2+1,none⟩) hbw).trans hwt0;have hix:=hix0.below HB;obtain ⟨rv2,hrv02,hwt02,hix02⟩:=hc2 k hlt;have hrv2:=(HB.cell (p:=⟨b2,off2+k*2,none⟩) hbw2).trans hrv02;have hwt2:=(HB.cell (p:=⟨b2,off2+k*2+1,none⟩) hbw2).trans hwt02;have hix2:=hix02.below HB;have hbr:b<wr.heap.size:=Nat.lt_of_lt_of_le hbw HB.size;have hbr2:b2<wr.heap.size:=Nat.lt_of_lt_of_le hbw2 HB.size;clear hrv0 hwt0 hix0 hrv02 hwt02 hix02 HB hc hc2;obtain ⟨p,HP⟩:∃ p,Hid (p=zs.getD k ([],0)):=⟨_,rfl⟩;obtain ⟨q,HQ⟩:∃ q,Hid (q=ys.getD k ([],0)):=⟨_,rfl⟩;rw [<-HP.out] at hix hwt;rw [<-HQ.out] at hix2 hwt2;obtain ⟨x,y⟩:=p;obtain ⟨x2,y2⟩:=q;obtain ⟨ra,rn,rc,rfl⟩:=hix.shape;obtain ⟨ra2,rn2,rc2,rfl⟩:=hix2.shape;simp only at hix hix2 hwt hwt2;go_wp2_with fail;refine (j4G ra rn rc y x ra2 rn2 rc2 y2 x2 _ ((hix.alloc _).alloc _) ((hix2.alloc _).alloc _)).mono ?_;rintro e w1 ⟨c,rfl,h1,h2,hb1⟩;have HK:Hid (Below w.heap.size w w1):=z1D (z1D HW.out (z1D (z1C _) (z1C _))) hb1;clear hb1 hrv hwt hrv2 hwt2 hix hix2;cases c with
   | false=>
    have H2:Hid ((x,y)≠(x2,y2)):=h2 rfl;clear h1 h2;go_wp2;go_ret;exact ⟨z1N (zsB_at zs ys k (by rw [<-HP.out,<-HQ.out]; exact H2.out)).symm,HK.out⟩
   | true=>
    have H1:Hid ((x,y)=(x2,y2)):=h1 rfl;clear h1 h2;go_wp2;go_roundw
    case rel=>exact ⟨k+1,by omega,by go_num,HK.out,fun j hj=>by
     rcases Nat.lt_succ_iff_lt_or_eq.1 hj with h | h
     ·
      exact HS.out j h
     ·
      rw [h,<-HP.out,<-HQ.out]; exact H1.out⟩
    case measure=>simp [intOf]; omega
  ·
   have e:k=n:=by omega
   subst e;clear hc hc2;go_wp2;go_ret;exact ⟨z1N (zsB_of zs ys HL.out (by rw [<-HN.out]; exact HS.out)).symm,HW.out⟩
theorem q4F (a:Option Addr) (cap n:Nat) (a2:Option Addr) (cap2 m:Nat) (f:Value) (w:World) (hne:((n:Int) != (m:Int))=true) :
  Calls Tryz.prog 25 #[.slice a n cap,.slice a2 m cap2,f] w fun e w'=>e = .returned (.bool false)/\Below w.heap.size w w':=by
 go_enter Tryz.func25,Tryz.ntmps25;go_wp2;go_ret;exact ⟨rfl,Below.refl _ _⟩
theorem v3O (a:Option Addr) (cap:Nat) (a2:Option Addr) (cap2:Nat) (f:Value) (w:World) :
  Calls Tryz.prog 25 #[.slice a 0 cap,.slice a2 0 cap2,f] w fun e w'=>e = .returned (.bool true)/\Below w.heap.size w w':=by
 go_enter Tryz.func25,Tryz.ntmps25;go_wp2;refine wp_loop_rounds 1 ?_;rw [rounds_succ];go_wp2;go_ret;exact ⟨rfl,Below.refl _ _⟩
theorem q4G (v v2:Value) (zs ys:List It) (w:World) (h:z1I w v zs) (h2:z1I w v2 ys) :
  Calls Tryz.prog 25 #[v,v2,.func (.func 26) #[] #[]] w fun e w'=>e = .returned (.bool (zsB zs ys))/\Below w.heap.size w w':=by
 by_cases hl:zs.length=ys.length
 ·
  rcases h.cases with ⟨a,cap,rfl,rfl⟩ | ⟨b,off,cap,hpos,hlim,rfl,hbw,hc⟩
  ·
   obtain rfl:ys=[]:=List.length_eq_zero_iff.1 hl.symm;obtain ⟨_,a2,cap2,rfl,_⟩:=h2;exact v3O a cap a2 cap2 _ w
  ·
   rcases h2.cases with ⟨a2,cap2,rfl,rfl⟩ | ⟨b2,off2,cap2,_,_,rfl,hbw2,hc2⟩
   ·
    simp at hl; simp [hl] at hpos
   ·
    rw [<-hl];exact v3N b off cap b2 off2 cap2 zs ys w hpos hlim hl hbw hbw2 hc (by rw [hl]; exact hc2)
 ·
  obtain ⟨_,a,cap,rfl,_⟩:=h;obtain ⟨_,a2,cap2,rfl,_⟩:=h2;rw [zsB_len zs ys hl];exact q4F a cap _ a2 cap2 _ _ w (by rw [bne_iff_ne]; omega)
theorem z2C (v v2:Value) (zs ys:List It) (w:World) (h:z1I w v zs) (h2:z1I w v2 ys) :
  Calls Tryz.prog 7 #[v,v2] w fun e w'=>e = .returned (.bool (zsB zs ys))/\Below w.heap.size w w':=by
 go_enter Tryz.func7,Tryz.ntmps7;go_wp2_with fail;refine (q4G v v2 zs ys _ h h2).mono ?_;rintro e w1 ⟨rfl,hb1⟩;clear h h2;go_wp2;go_ret;exact ⟨rfl,hb1⟩
def z2V (zs:List It) (r:List Int):Int:=((zs.find? fun p=>decide (p.1=r)).map (·.2)).getD 0
theorem getZ_at {zs:List It} {r:List Int} {k:Nat} (hk:k<zs.length) (h:∀ j,j<k->(zs.getD j ([],0)).1≠r) (he:(zs.getD k ([],0)).1=r):z2V zs r=(zs.getD k ([],0)).2:=by
 induction zs generalizing k with
 | nil=>simp at hk
 | cons p zs ih=>
  cases k with
  | zero=>
   simp at he;simp [z2V,he]
  | succ k=>
   have h0:=h 0 (by omega);simp at h0;have:=ih (k:=k) (by simpa using hk) (fun j hj=>by simpa using h (j+1) (by omega)) (by simpa using he);simp only [z2V,List.find?_cons,h0,decide_false] at this ⊢;simpa using this
theorem j6N {zs:List It} {r:List Int} (h:∀ j,j<zs.length->(zs.getD j ([],0)).1≠r):z2V zs r=0:=by
 have:zs.find? (fun p=>decide (p.1=r))=none:=by
  rw [List.find?_eq_none];intro p hp;obtain ⟨j,hj,rfl⟩:=j1J (d:=([],0)) hp;simpa using h j hj
 simp [z2V,this]
theorem z5Q {zs:List It} (h:q1G zs=true) {k:Nat} (hk:k+1<zs.length):ordL (zs.getD k ([],0)).1 (zs.getD (k+1) ([],0)).1 = -1:=by
 unfold q1G at h;rw [Bool.and_eq_true,List.all_eq_true] at h;have:=h.2 (k+1) (List.mem_range.2 hk);unfold q2B at this;rw [Bool.and_eq_true] at this;have h2:=this.2;simp at h2;unfold j1A at h2;have h3:=of_decide_eq_true h2;rcases ordL_cases (zs.getD k ([],0)).1 (zs.getD (k+1) ([],0)).1 with c | c | c <;> simp only [List.getD] at * <;> omega
theorem zOk_lt {zs:List It} (h:q1G zs=true):∀ (d i:Nat),i+d+1<zs.length->ordL (zs.getD i ([],0)).1 (zs.getD (i+d+1) ([],0)).1 = -1
 | 0,i,hi=>z5Q h hi
 | d+1,i,hi=>ordL_trans _ _ _ (zOk_lt h d i (by omega)) (by have:=z5Q h (k:=i+d+1) (by omega); exact this)
theorem zOk_ord {zs:List It} (h:q1G zs=true) {i j:Nat} (hij:i<j) (hj:j<zs.length):ordL (zs.getD i ([],0)).1 (zs.getD j ([],0)).1 = -1:=by
 have:=zOk_lt h (j - i - 1) i (by omega);rwa [show i+(j - i - 1)+1=j by omega] at this
theorem row_eq {x r:List Int} (hs:q1Z x r=true):x=r:=by
 rw [j2B] at hs;exact of_decide_eq_true hs
theorem q4Z (v:Value) (zs:List It) (rv:Value) (r:List Int) (w:World) (h:z1I w v zs) (hr:z1E w rv r) :
  Calls Tryz.prog 119 #[v,rv] w fun e w'=>e = .returned (.int .i64 (if q1G zs then z2V zs r else 0))/\Below w.heap.size w w':=by
 have hI:=h;rcases h.cases with ⟨a,cap,rfl,rfl⟩ | ⟨b,off,cap,hpos,hlim,rfl,hbw,hc⟩
 ·
  clear h hI hr;go_enter Tryz.func119,Tryz.ntmps119;go_wp2;refine wp_loop_rounds 1 ?_;rw [rounds_succ];go_wp2;go_ret;exact ⟨by simp [z2V],Below.refl _ _⟩
 ·
  clear h;obtain ⟨n,hn⟩:∃ n,n=zs.length:=⟨_,rfl⟩;have HN:Hid (n=zs.length):=hn;rw [<-hn] at hpos hlim hI hc ⊢;clear hn;have HI:Hid (z1I w (.slice (some ⟨b,off,none⟩) n cap) zs):=hI;clear hI;cases hok:q1G zs with
  | false=>
   clear hc hr;go_enter Tryz.func119,Tryz.ntmps119;go_wp2;refine wp_loop_rounds 1 ?_;rw [rounds_succ];go_wp2_with fail;refine (z1M _ zs _ HI.out).mono ?_;rw [hok];rintro e w1 ⟨rfl,hd1⟩;have HK:Hid (Below w.heap.size w w1):=hd1.below;clear hd1;go_wp2;go_ret;exact ⟨rfl,HK.out⟩
  | true=>
   go_enter Tryz.func119,Tryz.ntmps119;go_wp2;go_loopw [5] (fun i wr=> ∃ (k:Nat),k<=n/\i = .int .i64 k/\Hid (∀ j,j<k->(zs.getD j ([],0)).1≠r)/\Hid (Below w.heap.size w wr)) (fun i _=>n - (intOf i).toNat)
   case atStart=>exact ⟨0,Nat.zero_le _,rfl,fun j hj=>by omega,Below.refl _ _⟩
   case round=>
    obtain ⟨k,hk,rfl,HS,HW⟩:=hrel;by_cases hlt:k<n
    ·
     have hlt':k<zs.length:=by rw [<-HN.out]; exact hlt
     go_wp2_with fail;refine (z1M _ zs _ (HI.out.below HW.out)).mono ?_;rw [hok];rintro e w5 ⟨rfl,hd5⟩;have HB:=z1D HW.out hd5.below;obtain ⟨xv,hrv0,hwt0,hix0⟩:=hc k hlt;have hrv:=(HB.cell (p:=⟨b,off+k*2,none⟩) hbw).trans hrv0;have hix:=hix0.below HB;have hr5:=hr.below HB;clear hrv0 hix0 hd5 HW;obtain ⟨x,HX⟩:∃ x,Hid (x=(zs.getD k ([],0)).1):=⟨_,rfl⟩;obtain ⟨y,HY⟩:∃ y,Hid (y=(zs.getD k ([],0)).2):=⟨_,rfl⟩;rw [<-HX.out] at hix;rw [<-HY.out] at hwt0;cases hs:q1Z x r with
     | false=>
      go_wp2_with fail;refine (v1D hs hix hr5).mono ?_;rintro e w6 ⟨rfl,hd6⟩;have HK:Hid (Below w.heap.size w w6):=z1D HB hd6.below;clear hix hr5 hd6 HB hc hr;go_wp2;go_roundw
      case rel=>exact ⟨k+1,by omega,by go_num,fun j hj=>by
       rcases Nat.lt_succ_iff_lt_or_eq.1 hj with h | h
       ·
        exact HS.out j h
       ·
        rw [h,<-HX.out]; intro e; subst e; rw [j4F] at hs; simp at hs,HK.out⟩
      case measure=>simp [intOf]; omega
     | true=>
      go_wp2_with fail;refine (v1D hs hix hr5).mono ?_;rintro e w6 ⟨rfl,hd6⟩;have HK:Hid (Below w.heap.size w w6):=z1D HB hd6.below;have hwt:=(HK.out.cell (p:=⟨b,off+k*2+1,none⟩) hbw).trans hwt0;have hxr:Hid (x=r):=row_eq hs;clear hix hr5 hd6 HB hc hr hwt0;go_wp2;go_ret;exact ⟨j2D (by rw [getZ_at hlt' HS.out (by rw [<-HX.out]; exact hxr.out),HY.out]),HK.out⟩
    ·
     have e:k=n:=by omega
     subst e;clear hc hr;go_wp2;go_ret;exact ⟨j2D (by rw [j6N (by rw [<-HN.out]; exact HS.out)]),HW.out⟩
theorem q3L (a:Option Addr) (n cap:Nat) (y:Int) (xs:List Int) (a2:Option Addr) (n2 cap2:Nat) (y2:Int) (xs2:List Int) (w:World) (h:z1E w (.slice a n cap) xs) (h2:z1E w (.slice a2 n2 cap2) xs2) :
  Calls Tryz.prog 42 #[.agg #[.slice a n cap,.int .i64 y],.agg #[.slice a2 n2 cap2,.int .i64 y2]] w fun e w'=>e = .returned (.int .i64 (ordL xs xs2))/\Below w.heap.size w w':=by
 have ha:=(h.alloc (.cells #[.slice a n cap,.int .i64 y] 47)).alloc (.cells #[.slice a2 n2 cap2,.int .i64 y2] 47);have ha2:=(h2.alloc (.cells #[.slice a n cap,.int .i64 y] 47)).alloc (.cells #[.slice a2 n2 cap2,.int .i64 y2] 47);clear h h2;go_enter Tryz.func42,Tryz.ntmps42;go_wp2_with fail;refine (z2D _ _ xs xs2 _ ha ha2).mono ?_;rintro e w1 ⟨rfl,hd1⟩;have HK:Hid (Below w.heap.size w w1):=z1D (z1D (z1C _) (z1C _)) hd1.below;clear ha ha2 hd1;go_wp2;go_ret;exact ⟨rfl,HK.out⟩
end Go.Proofs.YtmjaepdplbgohaaGreatDoor
namespace Go.Proofs.YtmjaepdplbgohaaGreatDoor
def Srt (zs:List It):Prop:=zs.Pairwise fun p q=>ordL p.1 q.1 = -1
def Nz (zs:List It):Prop:=∀ p∈zs,p.2≠0
theorem x2E {a b:List Int} (h:ordL a b = -1):a≠b:=fun e=>by rw [e,v1Z] at h; omega
theorem z2N {a b:List Int} (h:¬ ordL a b = -1) (hne:a≠b):ordL b a = -1:=by
 rcases ordL_cases a b with c | c | c
 ·
  exact absurd c.1 h
 ·
  exact absurd c.2.2 hne
 ·
  exact c.2
theorem k1N (q:List Int):z2V [] q=0:=rfl
theorem z1W (p:It) (zs:List It) (q:List Int):z2V (p :: zs) q=if p.1=q then p.2 else z2V zs q:=by
 unfold z2V;by_cases h:p.1=q
 ·
  simp [h]
 ·
  simp [h]
theorem x2K {zs:List It} {q:List Int} (h:∀ p∈zs,p.1≠q):z2V zs q=0:=by
 induction zs with
 | nil=>rfl
 | cons p zs ih=>
  rw [z1W,if_neg (h p (by simp))];exact ih fun x hx=>h x (by simp [hx])
theorem Srt.cons {p:It} {zs:List It}:Srt (p :: zs)<->(∀ x∈zs,ordL p.1 x.1 = -1)/\Srt zs:=List.pairwise_cons
theorem Srt.nil:Srt []:=List.Pairwise.nil
theorem q2U {p:It} {zs:List It} (h:Srt (p :: zs)):z2V zs p.1=0:=x2K fun x hx e=>x2E ((Srt.cons.1 h).1 x hx) e.symm
theorem q2T {p:It} {zs:List It} {q:List Int} (h:Srt (p :: zs)) (hq:ordL q p.1 = -1):z2V (p :: zs) q=0:=by
 refine x2K fun x hx e=> ?_;rcases List.mem_cons.1 hx with rfl | hx
 ·
  exact x2E hq e.symm
 ·
  exact x2E (ordL_trans _ _ _ hq ((Srt.cons.1 h).1 x hx)) e.symm
def putZ:List It->List Int->Int->List It
 | [],r,y=>if y=0 then [] else [(r,y)]
 | p :: zs,r,y=>if ordL p.1 r = -1 then p :: putZ zs r y
   else if p.1=r then (if p.2+y=0 then zs else (p.1,p.2+y) :: zs)
   else if y=0 then p :: zs else (r,y) :: p :: zs
theorem k2H (r:List Int) (y:Int):∀ (k:Nat) (zs:List It),(∀ j,j<k->ordL (zs.getD j ([],0)).1 r = -1)->k<=zs.length->putZ zs r y=zs.take k++putZ (zs.drop k) r y
 | 0,zs,_,_=>by simp
 | k+1,[],_,h=>by simp at h
 | k+1,p :: zs,h,hl=>by
  have h0:=h 0 (by omega)
  simp at h0
  have ih:=k2H r y k zs (fun j hj=>by simpa using h (j+1) (by omega)) (by simpa using hl)
  rw [putZ,if_pos h0,ih]
  simp
theorem j4M {zs:List It} {r:List Int} {k:Nat} (y:Int) (h:∀ j,j<k->ordL (zs.getD j ([],0)).1 r = -1) (hk:k<zs.length) (he:(zs.getD k ([],0)).1=r) :
  putZ zs r y=if (zs.getD k ([],0)).2+y=0 then zs.take k++zs.drop (k+1) else zs.set k (r,(zs.getD k ([],0)).2+y):=by
 have e1:zs.getD k ([],0)=zs[k]:=by simp [List.getD,hk]
 rw [k2H r y k zs h (by omega),List.drop_eq_getElem_cons hk,putZ];rw [e1] at he ⊢;have h1:¬ ordL zs[k].1 r = -1:=by rw [he,v1Z]; omega
 rw [if_neg h1,if_pos he];by_cases h0:zs[k].2+y=0
 ·
  rw [if_pos h0,if_pos h0]
 ·
  rw [if_neg h0,if_neg h0,he,List.set_eq_take_append_cons_drop,if_pos hk]
theorem q5F {zs:List It} {r:List Int} {k:Nat} {y:Int} (hy:y≠0) (h:∀ j,j<k->ordL (zs.getD j ([],0)).1 r = -1) (hk:k<=zs.length) (he:k<zs.length->ordL (zs.getD k ([],0)).1 r≠-1/\(zs.getD k ([],0)).1≠r) :
  putZ zs r y=zs.take k++(r,y) :: zs.drop k:=by
 rw [k2H r y k zs h hk];by_cases hlt:k<zs.length
 ·
  have e1:zs.getD k ([],0)=zs[k]:=by simp [List.getD,hlt]
  obtain ⟨h1,h2⟩:=he hlt;rw [e1] at h1 h2;rw [List.drop_eq_getElem_cons hlt,putZ,if_neg h1,if_neg h2,if_neg hy]
 ·
  rw [List.drop_eq_nil_of_le (by omega),putZ,if_neg hy]
theorem z6I {zs:List It} {r:List Int} {k:Nat} (h:∀ j,j<k->ordL (zs.getD j ([],0)).1 r = -1) (hk:k<=zs.length) (he:k<zs.length->ordL (zs.getD k ([],0)).1 r≠-1/\(zs.getD k ([],0)).1≠r) :
  putZ zs r 0=zs:=by
 rw [k2H r 0 k zs h hk];by_cases hlt:k<zs.length
 ·
  have e1:zs.getD k ([],0)=zs[k]:=by simp [List.getD,hlt]
  obtain ⟨h1,h2⟩:=he hlt;rw [e1] at h1 h2;conv=>lhs; rw [List.drop_eq_getElem_cons hlt,putZ,if_neg h1,if_neg h2,if_pos rfl]
  rw [<-List.drop_eq_getElem_cons hlt,List.take_append_drop]
 ·
  rw [List.drop_eq_nil_of_le (by omega),putZ,if_pos rfl,List.append_nil,List.take_of_length_le (by omega)]
theorem z3N {x:It} {r:List Int} {y:Int}:∀ {zs:List It},x∈putZ zs r y->x∈zs\/x.1=r
 | [],h=>by
  unfold putZ at h
  split at h <;> simp at h
  exact .inr (by rw [h])
 | p :: zs,h=>by
  unfold putZ at h
  split at h
  ·
   rcases List.mem_cons.1 h with rfl | h
   ·
    exact .inl (by simp)
   ·
    rcases z3N h with h | h
    ·
     exact .inl (by simp [h])
    ·
     exact .inr h
  ·
   split at h
   ·
    rename_i hp;split at h
    ·
     exact .inl (by simp [h])
    ·
     rcases List.mem_cons.1 h with rfl | h
     ·
      exact .inr hp
     ·
      exact .inl (by simp [h])
   ·
    split at h
    ·
     exact .inl h
    ·
     rcases List.mem_cons.1 h with rfl | h
     ·
      exact .inr rfl
     ·
      exact .inl h
theorem j3I {B C:Int} {r:List Int} {y:Int} (hC : -C<=y/\y<=C) (hB0:0<=B) (hC0:0<=C):∀ {zs:List It},(∀ p∈zs,-B<=p.2/\p.2<=B)->∀ x∈putZ zs r y,-(B+C)<=x.2/\x.2<=B+C
 | [],_,x,hx=>by
  unfold putZ at hx
  split at hx <;> simp at hx
  rw [hx]
  show -(B+C)<=y/\y<=B+C
  omega
 | p :: zs,hB,x,hx=>by
  have hp:=hB p (by simp)
  have hz:∀ q∈zs,-B<=q.2/\q.2<=B:=fun q hq=>hB q (by simp [hq])
  have wide:∀ q∈p :: zs,-(B+C)<=q.2/\q.2<=B+C:=fun q hq=>by have:=hB q hq; omega
  unfold putZ at hx
  split at hx
  ·
   rcases List.mem_cons.1 hx with rfl | hx
   ·
    exact wide _ (by simp)
   ·
    exact j3I hC hB0 hC0 hz x hx
  ·
   split at hx
   ·
    split at hx
    ·
     exact wide x (by simp [hx])
    ·
     rcases List.mem_cons.1 hx with rfl | hx
     ·
      show -(B+C)<=p.2+y/\p.2+y<=B+C;omega
     ·
      exact wide x (by simp [hx])
   ·
    split at hx
    ·
     exact wide x hx
    ·
     rcases List.mem_cons.1 hx with rfl | hx
     ·
      show -(B+C)<=y/\y<=B+C;omega
     ·
      exact wide x hx
theorem z3I (r:List Int) (y:Int):∀ zs:List It,(putZ zs r y).length<=zs.length+1
 | []=>by unfold putZ; split <;> simp
 | p :: zs=>by
  have:=z3I r y zs
  unfold putZ
  split
  ·
   simp; omega
  ·
   split
   ·
    split <;> simp <;> omega
   ·
    split <;> simp
theorem v2O {r:List Int} {y:Int}:∀ {zs:List It},Srt zs->Srt (putZ zs r y)
 | [],_=>by
  unfold putZ
  split
  ·
   exact Srt.nil
  ·
   exact Srt.cons.2 ⟨fun x hx=>by simp at hx,Srt.nil⟩
 | p :: zs,h=>by
  obtain ⟨h1,h2⟩:=Srt.cons.1 h
  unfold putZ
  split
  ·
   rename_i hp;refine Srt.cons.2 ⟨fun x hx=> ?_,v2O h2⟩;rcases z3N hx with hx | hx
   ·
    exact h1 x hx
   ·
    rw [hx]; exact hp
  ·
   rename_i hp;split
   ·
    split
    ·
     exact h2
    ·
     exact Srt.cons.2 ⟨h1,h2⟩
   ·
    rename_i hne;split
    ·
     exact h
    ·
     have hr:=z2N hp hne;refine Srt.cons.2 ⟨fun x hx=> ?_,h⟩;rcases List.mem_cons.1 hx with rfl | hx
     ·
      exact hr
     ·
      exact ordL_trans _ _ _ hr (h1 x hx)
theorem z6U {r:List Int} {y:Int}:∀ {zs:List It},Nz zs->Nz (putZ zs r y)
 | [],_=>by
  unfold putZ
  split
  ·
   intro p hp; simp at hp
  ·
   rename_i hy;intro p hp;simp at hp;rw [hp]; exact hy
 | p :: zs,h=>by
  have hp:=h p (by simp)
  have hz:Nz zs:=fun q hq=>h q (by simp [hq])
  intro x hx
  unfold putZ at hx
  split at hx
  ·
   rcases List.mem_cons.1 hx with rfl | hx
   ·
    exact hp
   ·
    exact z6U hz x hx
  ·
   split at hx
   ·
    split at hx
    ·
     exact hz x hx
    ·
     rename_i h0;rcases List.mem_cons.1 hx with rfl | hx
     ·
      exact h0
     ·
      exact hz x hx
   ·
    split at hx
    ·
     exact h x hx
    ·
     rename_i hy;rcases List.mem_cons.1 hx with rfl | hx
     ·
      exact hy
     ·
      exact h x hx
theorem k2Q {r q:List Int} {y:Int}:∀ {zs:List It},Srt zs->z2V (putZ zs r y) q=z2V zs q+(if r=q then y else 0)
 | [],_=>by
  unfold putZ
  split
  ·
   rename_i hy;subst hy;simp [k1N]
  ·
   rw [z1W,k1N]; simp
 | p :: zs,h=>by
  obtain ⟨h1,h2⟩:=Srt.cons.1 h
  have ih:=k2Q (r:=r) (q:=q) (y:=y) h2
  unfold putZ
  split
  ·
   rename_i hp;rw [z1W,z1W];by_cases hq:p.1=q
   ·
    have hne:r≠q:=fun e=>x2E hp (hq.trans e.symm);simp [hq,hne]
   ·
    rw [if_neg hq,if_neg hq,ih]
  ·
   rename_i hp;split
   ·
    rename_i hpr;have h0:=q2U h;split
    ·
     rename_i hs;rw [z1W];by_cases hq:r=q
     ·
      subst hq;rw [hpr] at h0;rw [if_pos hpr,if_pos rfl,h0]; omega
     ·
      have hq':p.1≠q:=fun e=>hq (hpr.symm.trans e);rw [if_neg hq',if_neg hq]; omega
    ·
     rw [z1W,z1W];by_cases hq:r=q
     ·
      subst hq;rw [if_pos hpr,if_pos hpr,if_pos rfl]
     ·
      have hq':p.1≠q:=fun e=>hq (hpr.symm.trans e);rw [if_neg hq',if_neg hq',if_neg hq]; omega
   ·
    rename_i hne;split
    ·
     rename_i hy;subst hy;simp
    ·
     have hr:=z2N hp hne;rw [z1W];by_cases hq:r=q
     ·
      subst hq;have:=q2T h hr;rw [if_pos rfl,if_pos rfl,this]; omega
     ·
      rw [if_neg hq,if_neg hq]; omega
theorem canon:∀ {xs ys:List It},Srt xs->Nz xs->Srt ys->Nz ys->(∀ q,z2V xs q=z2V ys q)->xs=ys
 | [],[],_,_,_,_,_=>rfl
 | [],y :: ys,_,_,_,hn,h=>by
  have:=h y.1
  rw [k1N,z1W,if_pos rfl] at this
  exact absurd this.symm (hn y (by simp))
 | x :: xs,[],_,hn,_,_,h=>by
  have:=h x.1
  rw [k1N,z1W,if_pos rfl] at this
  exact absurd this (hn x (by simp))
 | x :: xs,y :: ys,hx,hnx,hy,hny,h=>by
  by_cases e:x.1=y.1
  ·
   have hw:x.2=y.2:=by
    have:=h x.1;rwa [z1W,if_pos rfl,z1W,if_pos e.symm] at this
   have ih:xs=ys:=canon (Srt.cons.1 hx).2 (fun q hq=>hnx q (by simp [hq])) (Srt.cons.1 hy).2 (fun q hq=>hny q (by simp [hq])) fun q=>by
    by_cases hq:x.1=q
    ·
     subst hq;rw [q2U hx,e,q2U hy]
    ·
     have:=h q;rwa [z1W,if_neg hq,z1W,if_neg (by rw [<-e]; exact hq)] at this
   rw [ih,show x=y from Prod.ext e hw]
  ·
   by_cases hl:ordL x.1 y.1 = -1
   ·
    have:=h x.1;rw [q2T hy hl,z1W,if_pos rfl] at this;exact absurd this (hnx x (by simp))
   ·
    have hl':=z2N hl e;have:=h y.1;rw [q2T hx hl',z1W,if_pos rfl] at this;exact absurd this.symm (hny y (by simp))
def j1L (a b:List It):List It:=b.foldl (fun z p=>putZ z p.1 p.2) a
theorem j5I (a:List It):j1L a []=a:=rfl
theorem z2T (a:List It) (p:It) (b:List It):j1L a (p :: b)=j1L (putZ a p.1 p.2) b:=rfl
theorem x3Q (a b:List It) (p:It):j1L a (b++[p])=putZ (j1L a b) p.1 p.2:=by simp [j1L,List.foldl_append]
theorem srt_add:∀ {b a:List It},Srt a->Srt (j1L a b)
 | [],_,h=>h
 | p :: b,a,h=>by rw [z2T]; exact srt_add (v2O h)
theorem nz_add:∀ {b a:List It},Nz a->Nz (j1L a b)
 | [],_,h=>h
 | p :: b,a,h=>by rw [z2T]; exact nz_add (z6U h)
theorem q5Y {q:List Int}:∀ {b a:List It},Srt a->Srt b->z2V (j1L a b) q=z2V a q+z2V b q
 | [],a,_,_=>by rw [j5I,k1N]; omega
 | p :: b,a,ha,hb=>by
  rw [z2T,q5Y (v2O ha) (Srt.cons.1 hb).2,k2Q ha,z1W]
  by_cases hq:p.1=q
  ·
   have:=q2U hb;rw [hq] at this;rw [if_pos hq,if_pos hq,this]; omega
  ·
   rw [if_neg hq,if_neg hq]; omega
def mrgIn (x:It) (rest:List It->List It):List It->List It
 | []=>x :: rest []
 | y :: b=>if ordL x.1 y.1 = -1 then x :: rest (y :: b) else if ordL x.1 y.1=1 then y :: mrgIn x rest b else (x.1,x.2+y.2) :: rest b
def mrgZ:List It->List It->List It
 | []=>fun b=>b
 | x :: a=>mrgIn x (mrgZ a)
theorem k2K (b:List It):mrgZ [] b=b:=rfl
theorem mrgZ_nil':∀ a:List It,mrgZ a []=a
 | []=>rfl
 | x :: a=>by
  show x :: mrgZ a []=x :: a
  rw [mrgZ_nil' a]
theorem q2P (x y:It) (a b:List It):mrgZ (x :: a) (y :: b)=if ordL x.1 y.1 = -1 then x :: mrgZ a (y :: b) else if ordL x.1 y.1=1 then y :: mrgZ (x :: a) b else (x.1,x.2+y.2) :: mrgZ a b:=rfl
theorem z3O {x:It}:∀ (n:Nat) {a b:List It},a.length+b.length<=n->x∈mrgZ a b->(∃ p∈a,x.1=p.1)\/∃ p∈b,x.1=p.1
 | _,[],b,_,h=>by rw [k2K] at h; exact .inr ⟨x,h,rfl⟩
 | _,p :: a,[],_,h=>by rw [mrgZ_nil'] at h; exact .inl ⟨x,h,rfl⟩
 | 0,_ :: _,_ :: _,hn,_=>by simp at hn
 | n+1,p :: a,q :: b,hn,h=>by
  rw [q2P] at h
  simp only [List.length_cons] at hn
  split at h
  ·
   rcases List.mem_cons.1 h with rfl | h
   ·
    exact .inl ⟨_,by simp,rfl⟩
   ·
    rcases z3O n (by simp only [List.length_cons]; omega) h with ⟨z,hz,e⟩ | h
    ·
     exact .inl ⟨z,by simp [hz],e⟩
    ·
     exact .inr h
  ·
   split at h
   ·
    rcases List.mem_cons.1 h with rfl | h
    ·
     exact .inr ⟨_,by simp,rfl⟩
    ·
     rcases z3O n (by simp only [List.length_cons]; omega) h with h | ⟨z,hz,e⟩
     ·
      exact .inl h
     ·
      exact .inr ⟨z,by simp [hz],e⟩
   ·
    rcases List.mem_cons.1 h with rfl | h
    ·
     exact .inl ⟨p,by simp,rfl⟩
    ·
     rcases z3O n (by omega) h with ⟨z,hz,e⟩ | ⟨z,hz,e⟩
     ·
      exact .inl ⟨z,by simp [hz],e⟩
     ·
      exact .inr ⟨z,by simp [hz],e⟩
theorem k2J (q:List Int):∀ (n:Nat) {a b:List It},a.length+b.length<=n->Srt a->Srt b->Srt (mrgZ a b)/\z2V (mrgZ a b) q=z2V a q+z2V b q
 | _,[],b,_,_,hb=>by rw [k2K,k1N]; exact ⟨hb,by omega⟩
 | _,p :: a,[],_,ha,_=>by rw [mrgZ_nil',k1N]; exact ⟨ha,by omega⟩
 | 0,_ :: _,_ :: _,hn,_,_=>by simp at hn
 | n+1,x :: a,y :: b,hn,ha,hb=>by
  simp only [List.length_cons] at hn
  obtain ⟨ha1,ha2⟩:=Srt.cons.1 ha
  obtain ⟨hb1,hb2⟩:=Srt.cons.1 hb
  rw [q2P]
  split
  ·
   rename_i hl;obtain ⟨h1,h2⟩:=k2J q n (a:=a) (b:=y :: b) (by simp only [List.length_cons]; omega) ha2 hb;refine ⟨Srt.cons.2 ⟨fun z hz=> ?_,h1⟩,?_⟩
   ·
    rcases z3O n (by simp only [List.length_cons]; omega) hz with ⟨p,hp,e⟩ | ⟨p,hp,e⟩
    ·
     rw [e]; exact ha1 p hp
    ·
     rw [e];rcases List.mem_cons.1 hp with rfl | hp
     ·
      exact hl
     ·
      exact ordL_trans _ _ _ hl (hb1 p hp)
   ·
    rw [z1W,h2,z1W x a];by_cases hq:x.1=q
    ·
     rw [if_pos hq,if_pos hq,<-hq,q2T hb hl]; omega
    ·
     rw [if_neg hq,if_neg hq]
  ·
   rename_i hnl;split
   ·
    rename_i hg;have hl:ordL y.1 x.1 = -1:=z2N hnl (fun e=>by rw [e,v1Z] at hg; omega);obtain ⟨h1,h2⟩:=k2J q n (a:=x :: a) (b:=b) (by simp only [List.length_cons]; omega) ha hb2;refine ⟨Srt.cons.2 ⟨fun z hz=> ?_,h1⟩,?_⟩
    ·
     rcases z3O n (by simp only [List.length_cons]; omega) hz with ⟨p,hp,e⟩ | ⟨p,hp,e⟩
     ·
      rw [e];rcases List.mem_cons.1 hp with rfl | hp
      ·
       exact hl
      ·
       exact ordL_trans _ _ _ hl (ha1 p hp)
     ·
      rw [e]; exact hb1 p hp
    ·
     rw [z1W,h2,z1W y b];by_cases hq:y.1=q
     ·
      rw [if_pos hq,if_pos hq,<-hq,q2T ha hl]; omega
     ·
      rw [if_neg hq,if_neg hq]
   ·
    rename_i hng;have he:x.1=y.1:=by
     rcases ordL_cases x.1 y.1 with c | c | c
     ·
      exact absurd c.1 hnl
     ·
      exact c.2.2
     ·
      exact absurd c.1 hng
    obtain ⟨h1,h2⟩:=k2J q n (a:=a) (b:=b) (by omega) ha2 hb2;refine ⟨Srt.cons.2 ⟨fun z hz=> ?_,h1⟩,?_⟩
    ·
     show ordL x.1 z.1 = -1;rcases z3O n (by omega) hz with ⟨p,hp,e⟩ | ⟨p,hp,e⟩
     ·
      rw [e]; exact ha1 p hp
     ·
      rw [e,he]; exact hb1 p hp
    ·
     rw [z1W,h2,z1W x a,z1W y b];by_cases hq:x.1=q
     ·
      rw [if_pos hq,if_pos hq,if_pos (he.symm.trans hq)]
     ·
      rw [if_neg hq,if_neg hq,if_neg (by rw [<-he]; exact hq)]
theorem v2V {q:List Int}:∀ {zs:List It},Srt zs->z2V (zs.filter fun p=>decide (p.2≠0)) q=z2V zs q
 | [],_=>rfl
 | p :: zs,h=>by
  have ih:=v2V (q:=q) (Srt.cons.1 h).2
  rw [z1W]
  by_cases h0:p.2=0
  ·
   rw [List.filter_cons_of_neg (by simp [h0]),ih];by_cases hq:p.1=q
   ·
    have:=q2U h;rw [hq] at this;rw [if_pos hq,h0,this]
   ·
    rw [if_neg hq]
  ·
   rw [List.filter_cons_of_pos (by simp [h0]),z1W,ih]
theorem mrg_add {a b:List It} (ha:Srt a) (hna:Nz a) (hb:Srt b):(mrgZ a b).filter (fun p=>decide (p.2≠0))=j1L a b:=by
 have hm:=fun q=>k2J q _ (Nat.le_refl (a.length+b.length)) ha hb;refine canon ((hm []).1.sublist List.filter_sublist) (fun p hp=> ?_) (srt_add ha) (nz_add hna) fun q=> ?_
 ·
  have:=(List.mem_filter.1 hp).2;simpa using this
 ·
  rw [v2V (hm []).1,(hm q).2,q5Y ha hb]
theorem q3Z {zs:List It} (h:q1G zs=true):Srt zs:=by
 unfold Srt;rw [List.pairwise_iff_getElem];intro i j hi hj hij;have:=zOk_ord h hij hj;simpa [List.getD,hi,hj] using this
theorem z5R {zs:List It} (h:q1G zs=true):Nz zs:=by
 intro p hp;obtain ⟨j,hj,rfl⟩:=j1J (d:=([],0)) hp;have:=(j1S h hj).2;unfold wB at this;exact (of_decide_eq_true this).1
theorem mrg_len (a b:List It):(mrgZ a b).length<=a.length+b.length:=by
 suffices ∀ (n:Nat) (a b:List It),a.length+b.length<=n->(mrgZ a b).length<=a.length+b.length from this _ a b (Nat.le_refl _)
 intro n;induction n with
 | zero=>intro a b h; cases a <;> cases b <;> simp at h <;> simp [k2K]
 | succ n ih=>
  intro a b h;match a,b,h with
  | [],b,_=>rw [k2K]; simp
  | x :: a,[],_=>rw [mrgZ_nil']; simp
  | x :: a,y :: b,h=>
   simp only [List.length_cons] at h;rw [q2P];have h1:=ih a (y :: b) (by simp only [List.length_cons]; omega);have h2:=ih (x :: a) b (by simp only [List.length_cons]; omega);have h3:=ih a b (by omega);simp only [List.length_cons] at *;split
   ·
    simp only [List.length_cons]; omega
   ·
    split <;> simp only [List.length_cons] <;> omega
end Go.Proofs.YtmjaepdplbgohaaGreatDoor
namespace Go.Proofs.YtmjaepdplbgohaaGreatDoor
open Go.RowKit
theorem z2J (v:Value) (xs:List Int) (w:World) (h:z1E w v xs) (hlim:xs.length<=8796093022208) :
  Calls Tryz.prog 108 #[v] w fun e w'=> ∃ v',e = .returned v'/\Own w' w.heap.size w'.heap.size v' xs/\Below w.heap.size w w':=by
 obtain ⟨i0,hi,hz0,hz1,hz2⟩:=info_parts infoInt;have hx1:z1E (w.alloc (.cells #[] 3)) v xs:=h.below ((Below.refl _ _).alloc (Nat.le_refl _) _);have ho1:(w.alloc (.cells #[] 3)).ownsRow w.heap.size 3 1 (.slice (some ⟨w.heap.size,0,none⟩) 0 0) 0 []:=World.ownsRow_lit w #[] 0 (Nat.le_refl _) (by unfold maxLen; omega) rfl;clear h;go_enter Tryz.func108,Tryz.ntmps108;go_wp2_with (at_builtin; refine z1Q rfl _ _ 28 rfl w.heap.size 3 i0 Tryz.underlying28 hi hz0 hz1 hz2 (.slice (some ⟨w.heap.size,0,none⟩) 0 0) 0 [] rfl ho1 v xs rfl hx1 (by omega) (by simp) ?_; intro v' w1 hown1 hgrow1 _);have hb1:Below w.heap.size w w1:=((Below.refl _ _).alloc (Nat.le_refl _) _).grown hgrow1 (by simp) (by simp [Value.ownBlock]);have ho2:=x1Y (xs:=xs) (by simpa using hown1) (by omega);clear hown1 hgrow1 hx1 ho1;go_wp2;go_ret;exact ⟨_,rfl,ho2,hb1⟩
theorem j3G (v v2:Value) (xs ys:List Int) (w:World) (h:z1E w v xs) (h2:z1E w v2 ys) (hlim:xs.length+ys.length<=8796093022208) :
  Calls Tryz.prog 151 #[v,v2] w fun e w'=> ∃ v',e = .returned v'/\Own w' w.heap.size w'.heap.size v' (xs++ys)/\Below w.heap.size w w':=by
 obtain ⟨i0,hi,hz0,hz1,hz2⟩:=info_parts infoInt;go_enter Tryz.func151,Tryz.ntmps151;go_wp2_with fail;refine (z2J v xs _ h (by omega)).mono ?_;rintro e w1 ⟨v1,rfl,ho1,hb1⟩;have hy1:=h2.below hb1;clear h h2;go_wp2_with (at_builtin; refine z1Q rfl _ _ 28 rfl w.heap.size 3 i0 Tryz.underlying28 hi hz0 hz1 hz2 v1 _ _ rfl ho1.1 v2 ys rfl hy1 (by omega) hb1.size ?_; intro v' w2 hown2 hgrow2 _);have hb2:Below w.heap.size w w2:=hb1.grown hgrow2 hb1.size (fun k hk=>(ho1.1.lt k hk).1);have ho2:=x1Y (xs:=xs++ys) (by simpa using hown2) (by simp; omega);clear hown2 hgrow2 ho1 hy1 hb1;go_wp2;go_ret;exact ⟨_,rfl,ho2,hb2⟩
theorem x3D (v v2:Value) (xs ys:List Int) (w:World) (h:z1E w v xs) (h2:z1E w v2 ys) (hlim:xs.length+ys.length<=8796093022208) :
  Calls Tryz.prog 77 #[v,v2] w fun e w'=> ∃ v',e = .returned v'/\Own w' w.heap.size w'.heap.size v' (xs++ys)/\Below w.heap.size w w'/\v'≠.slice none 0 0:=by
 obtain ⟨i0,hi,hz0,hz1,hz2⟩:=info_parts infoInt;have hh:=h;have hh2:=h2;obtain ⟨-,a,cap,rfl,-⟩:=h;obtain ⟨-,a2,cap2,rfl,-⟩:=h2;obtain ⟨n,hn⟩:∃ n,n=xs.length:=⟨_,rfl⟩;obtain ⟨m,hm⟩:∃ m,m=ys.length:=⟨_,rfl⟩;have HN:Hid (n=xs.length):=hn;have HM:Hid (m=ys.length):=hm;rw [<-hn] at hlim hh ⊢;rw [<-hm] at hlim hh2 ⊢;clear hn hm;go_enter Tryz.func77,Tryz.ntmps77;go_wp2_with (first
  | (at_make; refine wpList_make_own _ rfl _ _ 28 rfl w.heap.size 3 i0 (.int .i64 0) 1 Tryz.underlying28 hi hz0 hz1 _ _ _ (n+m) rfl rfl (by omega) (by rw [hz2]; omega) (by unfold maxLen; omega) (Nat.le_refl _) ?_; intro w1 hown1 hgrow1; have hb1:Below w.heap.size w w1:=(Below.refl _ _).grown hgrow1 (Nat.le_refl _) (by simp))
  | (at_builtin; refine z1Q rfl (.tmp 12) (.tmp 13) 28 rfl w.heap.size 3 i0 Tryz.underlying28 hi hz0 hz1 hz2 (.slice (some ⟨w.heap.size,0,none⟩) 0 (n+m)) 0 [] rfl hown1 (.slice a n cap) xs rfl (hh.below hb1) (by rw [<-HN.out]; omega) hb1.size ?_; intro v2' w2 hown2 hgrow2 hnn2; have hb2:Below w.heap.size w w2:=hb1.grown hgrow2 hb1.size (fun k hk=>(hown1.lt k hk).1))
  | (at_builtin; refine z1Q rfl (.tmp 15) (.tmp 16) 28 rfl w.heap.size 3 i0 Tryz.underlying28 hi hz0 hz1 hz2 v2' _ _ rfl hown2 (.slice a2 m cap2) ys rfl (hh2.below hb2) (by rw [<-HN.out,<-HM.out]; omega) hb2.size ?_; intro v3' w3 hown3 hgrow3 hnn3; have hb3:Below w.heap.size w w3:=hb2.grown hgrow3 hb2.size (fun k hk=>(hown2.lt k hk).1)))
 have ho3:=x1Y (xs:=xs++ys) (by simpa using hown3) (by simp only [List.length_append,<-HN.out,<-HM.out]; omega);go_ret;exact ⟨_,rfl,ho3,hb3,hnn3 (hnn2 (by simp))⟩
end Go.Proofs.YtmjaepdplbgohaaGreatDoor
