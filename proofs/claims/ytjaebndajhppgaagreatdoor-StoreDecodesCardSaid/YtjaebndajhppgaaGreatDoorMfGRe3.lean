/-GRe3-/
import Derived.Test.YtjaebndajhppgaaGreatDoorMfHd1
import Derived.Test.YtjaebndajhppgaaGreatDoorMfGBx2
import Derived.Deep.DeepCutAuto
import Derived.Lib.SliceRun
import Derived.Deep.RegionLaw
set_option linter.unusedVariables false
set_option maxRecDepth 100000
set_option linter.unusedSimpArgs false
set_option maxHeartbeats 2000000
namespace Go.Proofs.YtjaebndajhppgaaGreatDoor
open Go.Proofs.Tryz
open Go Go.ChangeShapes Go.WideShapes Go.ChangeAt Go.RowKit
theorem UU {w:World} {base:Nat} {t:TypeId} {v:Value} {n:Nat} {l:List Nat} (h:w.ownsRow base t 1 v n (l.map aM)) (hn:n=l.length):dH base w (fun W=>bN W v l):=
 fun w'' hw=>bD.own (Dy h hw) hn
theorem KC {k l:List Nat} (hk:∀ i,k.getD i 0<256) (hl:∀ i,l.getD i 0<256) (h:strOf k=strOf l):k=l:=by
 have h1:k.map (fun x=>UInt8.ofNat x)=l.map (fun x=>UInt8.ofNat x):=by have:=congrArg (fun s:ByteArray=>s.data.toList) h;simpa [strOf] using this
 have hlen:k.length=l.length:=by simpa using congrArg List.length h1
 refine List.ext_getElem hlen fun i h2 h3=>?_;have h4:=congrArg (fun s=>s[i]?) h1;simp only [List.getElem?_map,List.getElem?_eq_getElem h2,List.getElem?_eq_getElem h3,Option.map_some,Option.some.injEq] at h4;have h5:=congrArg UInt8.toNat h4;have a1:=hk i;have a2:=hl i;simp only [List.getD,List.getElem?_eq_getElem h2,List.getElem?_eq_getElem h3,Option.getD_some] at a1 a2;simp only [UInt8.toNat_ofNat'] at h5;omega
theorem UW (v:Value) (l:List Nat) (w:World) (hR:bN w v l) (hb:∀ i,l.getD i 0<256) :
  Calls prog 70 #[v] w fun e w'=>e=.returned (.int .i64 (Cr.sum l:Nat))∧w=w':=by
 obtain ⟨a,cap,rfl,h1,h2,h3,hr⟩:=hR;obtain ⟨n,hn⟩:=aB l.length;rw [←hn] at h1 hr ⊢;have hnm:n≤9223372036854775807:=by unfold maxLen at h2;omega
 have HN:=aj hn;have HR:=aj hr;have HB:=aj hb;clear hn hr hb h3;go_enter func70,ntmps70;go_wp2;go_loop [3,4] (fun s3 s4=>∃ i:Nat,i≤n∧s3=.int .i64 (Cr.sum (l.take i):Nat)∧s4=.int .i64 i) (fun _ s4=>n-(intOf s4).toNat)
 case atStart=>exact ⟨0,ak,rfl,rfl⟩
 case round=>
  obtain ⟨i,hi,rfl,rfl⟩:=hrel;by_cases hlt:i<n
  · obtain ⟨b,off,rfl,hc⟩:=HR.out.get hlt;have c0:=hc i hlt;have hcb:=HB.out i;have hs0:=Cr.sum_lt _ (Cr.AY i HB.out);have HT:=aj (Cr.TK Cr.start l i (by rw [←HN.out];exact hlt));obtain ⟨c,hc0⟩:=aB (l.getD i 0);obtain ⟨s,hs1⟩:=aB (Cr.sum (l.take i));rw [show Cr.run Cr.start (l.take i)=s from hs1.symm,←hc0] at HT;rw [←hs1] at hs0 ⊢;rw [←hc0] at hcb c0;simp only [aM] at c0;obtain ⟨x0,hx0⟩:=aB (s ^^^ (65536*c));have hx16:=Cr.TV s c hs0 hcb;have hlt2:x0<2 ^ 24:=(by rw [hx0];exact Cr.in_lt s c hs0 hcb);have HST:=aj (show Cr.sum (l.take (i+1))=Cr.Tn 8 x0 by rw [hx0];exact HT.out);rw [←hx0] at hx16;have HL:=aj (fun k=>Cr.J7 k x0 hlt2);clear hc hs1 hc0 hx0 hlt2 HT;go_wp2;go_loop [3,5] (fun s3 s5=>∃ k:Nat,k≤8∧s3=.int .i64 (Cr.Tn k x0:Nat)∧s5=.int .i64 k) (fun _ s5=>8-(intOf s5).toNat)
    (case atStart=>exact ⟨0,ak,rfl,rfl⟩);case round=>
     obtain ⟨k,hk,rfl,rfl⟩:=hrel;have hx:=HL.out k;have hT:Cr.Tn (k+1) x0=Cr.T (Cr.Tn k x0):=rfl;by_cases hkl:k<8
     · obtain ⟨x,hx0⟩:=aB (Cr.Tn k x0);rw [←hx0] at hx hT ⊢;have hx24:x<16777216:=hx;have hxg:=Cr.TW x hx24;have htop:=Cr.top x hx24;by_cases h:8388608≤x
       · have iP:Cr.Tn (k+1) x0=(2*x) ^^^ 25578747:=(by rw [hT];unfold Cr.T;rw [htop,decide_eq_true h];rfl);obtain ⟨y,hy⟩:=aB ((2*x) ^^^ 25578747);rw [←hy] at hxg iP;have HT:=aj iP;have hge:decide ((16777216:Int)≤(x:Int)*2)=true:=(by rw [decide_eq_true_iff];omega);clear hT iP hx0 htop hy hx h hs0 hcb;go_wp2;go_round
         (case rel=>exact ⟨k+1,ak,by rw [HT.out],aN⟩);case measure=>simp [intOf];omega
       · have iP:Cr.Tn (k+1) x0=2*x:=(by rw [hT];unfold Cr.T;rw [htop,decide_eq_false h];simp);have HT:=aj iP;have hge:decide ((16777216:Int)≤(x:Int)*2)=false:=(by rw [decide_eq_false_iff_not];omega);clear hT iP hx0 htop hx hxg h hs0 hcb;go_wp2;go_round
         (case rel=>exact ⟨k+1,ak,by rw [HT.out];go_num,aN⟩);case measure=>simp [intOf];omega
     · obtain rfl:k=8:=ak;clear hT hx;go_wp2;go_round
       (case rel=>exact ⟨i+1,ak,by rw [HST.out],aN⟩);case measure=>simp [intOf];omega
  {obtain rfl:i=n:=ak;have HF:=aj (show l.take i=l by rw [HN.out,List.take_length]);go_wp2;go_ret;exact ⟨by rw [HF.out];rfl,rfl⟩}
theorem UY (x y z:Nat) (hx:x<256) (hy:y<256) (hz:z<256) :
  bits BinOp.or IntKind.i64 (bits BinOp.or IntKind.i64 ((x:Int)*65536) ((y:Int)*256)) (z:Int)=((Bx.mD x y z:Nat):Int):=by
 rw [show (x:Int)*65536=((65536*x:Nat):Int) by omega,show (y:Int)*256=((256*y:Nat):Int) by omega,Bn.zh _ _ ak ak];have e1:65536*x ||| 256*y=65536*x+256*y:=by have:=Nat.two_pow_add_eq_or_of_lt (i:=16) (b:=256*y) ak x;simpa using this.symm
 rw [e1,Bn.zh _ _ ak ak];have e2:(65536*x+256*y) ||| z=65536*x+256*y+z:=by have:=Nat.two_pow_add_eq_or_of_lt (i:=8) (b:=z) ak (256*x+y);rw [show 2 ^ 8*(256*x+y)=65536*x+256*y by omega] at this;exact this.symm
 rw [e2];rfl
theorem agt (v:Value) (l:List Nat) (W:World) (h:bN W v l) (hl:3≤l.length) (hb:∀ i,l.getD i 0<256) :
  Calls prog 137 #[v] W fun e W'=>e=.returned (.int .i64 (Bx.mD (l.getD 0 0) (l.getD 1 0) (l.getD 2 0):Nat))∧∃ q,W'=W.drewN q:=by
 obtain ⟨a,cap,rfl,h1,h2,h3,hr⟩:=bD.open h;obtain ⟨b,off,rfl,hc⟩:=hr.get (i:=0) ak;have c0:=hc 0 ak;have c1:=hc 1 ak;have c2:=hc 2 ak;have OR:=aj (UY _ _ _ (hb 0) (hb 1) (hb 2));simp only [aM] at c0 c1 c2;have b0:=hb 0;have b1:=hb 1;have b2:=hb 2;generalize l.getD 0 0=x at *;generalize l.getD 1 0=y at *;generalize l.getD 2 0=z at *;obtain ⟨n,hn⟩:=aB l.length;rw [←hn] at hl ⊢;rw [Nat.add_zero] at c0;clear hr h hb hc h3 hn h1;go_enter func137,ntmps137;go_wp2;go_quiet (fail)
 go_wp2;go_ret;exact ⟨jm OR.out,_,rfl⟩
theorem UZ (l:List Nat):(strOf l).toList=l.map fun x=>UInt8.ofNat x:=by unfold strOf;rw [ByteArray.toList_eq]
theorem KD {k l:List Nat} (hk:∀ i,k.getD i 0<256) (hl:∀ i,l.getD i 0<256):((strOf k).toList==(strOf l).toList)=decide (k=l):=by by_cases h:k=l;{rw [h,decide_eq_true rfl];simp};{rw [decide_eq_false h];refine beq_eq_false_iff_ne.2 fun e=>h (KC hk hl ?_);rw [UZ,UZ] at e;unfold strOf;rw [e]}
theorem KE (v1 v2:Value) (l1 l2:List Nat) (W:World) (h1:bN W v1 l1) (h2:bN W v2 l2) (b1:∀ i,l1.getD i 0<256) (b2:∀ i,l2.getD i 0<256) :
  Calls prog 50 #[v1,v2] W fun e W'=>e=.returned (.bool (decide (l1=l2)))∧W'=W:=by have k1:=mP (P:=prog) underlying32 underlying5 underlying9 W v1 l1 h1;have k2:=mP (P:=prog) underlying32 underlying5 underlying9 W v2 l2 h2;have hE:=aj (KD b1 b2);clear h1 h2 b1 b2;go_enter func50,ntmps50;go_wp2;go_ret;exact ⟨gF hE.out,rfl⟩
theorem agu (v:Value) (l:List Nat) (W:World) (h:bN W v l) (hl:l.length≤1000000000) :
  Calls prog 138 #[v] W fun e W'=>∃ v',e=.returned v'∧Below W.heap.size W W'∧dH W.heap.size W' (fun W=>bN W v' l):=by
 obtain ⟨i0,hi,hz0,hz1,hz2⟩:=info_parts Tryz.infobx5;obtain ⟨a,cap,rfl,h1,h2,h3,hr⟩:=bD.open h;have ke:=fun (w:World) (a:Option Addr) (n c:Nat)=>Lib.run_eql_slice_nil (P:=prog) w 32 5 a n c 0 0 underlying32;cases a with
 | none=>obtain ⟨e1,e2⟩:=h3 rfl;have hl0:l=[]:=List.eq_nil_of_length_eq_zero e1;subst hl0;subst e2;go_enter func138,ntmps138;go_wp2;go_ret;exact ⟨_,rfl,Below.refl _ _,fun w'' _=>bD.nil w''⟩
 | some ad=>
  have HR:=aj (bD.row h).2;have HN:=aj (show True from trivial);obtain ⟨n,hn⟩:=aB l.length;rw [←hn] at HR hl ⊢;have sN:=aj hn;clear h h1 h3 hr hn;go_enter func138,ntmps138;go_wp2_with (at_builtin;refine kP rfl (.tmp 5) (.tmp 6) 32 rfl W.heap.size 5 i0 _ 1 underlying32 hi hz0 hz1 hz2 rfl (.slice (some ⟨W.heap.size,0,none⟩) 0 0) 0 [] rfl ?own (some ad) n cap (fun i=>aM (l.getD i 0)) rfl ?nil ?row ?one ?b1 ?b2 ?base ?_)
  case own=>exact World.ownsRow_made W #[] 0 aF (by unfold maxLen;omega) rfl
  case nil=>intro h;cases h
  case row=>exact HR.out.keep ((Below.refl _ _).alloc aF _)
  case one=>intro j _;rfl
  case b1=>unfold maxLen;omega
  case b2=>omega
  case base=>simp
  intro v1 w1 hown hgr;have o_:(List.range n).map (fun t=>aM (l.getD t 0))=l.map aM:=by rw [sN.out];refine List.ext_getElem aI fun t q1 q2=>?_;simp only [List.getElem_map,List.getElem_range];rw [List.getD,List.getElem?_eq_getElem (by simpa using q2)];rfl
  have HO:=aj (show w1.ownsRow W.heap.size 5 1 v1 n (l.map aM) by rw [←o_];simpa using hown);have HB:=aj (show Below W.heap.size W w1 from ((Below.refl W.heap.size W).alloc aF _).grown hgr aI (fun k hk=>by simp only [Value.ownBlock,Option.some.injEq] at hk;omega));clear hown hgr o_;go_wp2;go_ret;exact ⟨v1,rfl,HB.out,UU HO.out sN.out⟩
theorem U0 (a:Option Addr) (n cap:Nat) (L:List Bx.aY) (W:World) (hn:n=L.length) (h:fP W (.slice a n cap) L) (Bg:n≤500) (hsz:Bx.sizes L≤90000) (hb:∀ s∈L,-9223372036854775808≤s.1∧s.1≤9223372036854775807) :
  Calls prog 68 #[.slice a n cap] W fun e W'=>e=.returned (.bool (Bx.kF L))∧Below W.heap.size W W':=by
 have HN:=aj hn;have HS:=aj h;have q8:=aj hb;have qN:=aj hsz;clear hn h hb hsz;obtain ⟨r,hr⟩:=aB (Bx.kF L);rw [←hr];have HM:=aj (show r=(decide (n≤8) && Bx.iQ 0 L && decide (Bx.total L≤100000)) by rw [hr,HN.out];rfl);clear hr;go_enter func68,ntmps68;go_wp2;go_loopw [3,4] (fun s3 s4 wr=>∃ (i z:Nat),i≤n∧s4=.int .i64 i∧s3=.int .i64 z∧z≤100000∧Hid (z+Bx.sizes (L.drop i)=Bx.total L)∧Hid (∃ p:Int,0≤p∧Bx.iQ p (L.drop i)=Bx.iQ 0 L∧(i=0→p=0)∧∀ j (h:j<L.length),i=j+1→p=L[j].1)∧Hid (∃ q,wr=W.drewN q)) (fun _ s4 _=>n-(intOf s4).toNat)
 case atStart=>exact ⟨0,9+7*n,ak,rfl,aI,ak,aj (by rw [List.drop_zero,HN.out];rfl),aj ⟨0,ak,by rw [List.drop_zero],fun _=>rfl,fun j _ e=>ak⟩,aj ⟨0,rfl⟩⟩
 case round=>
  obtain ⟨i,z,hin,rfl,rfl,hz,HZ,HP,HW⟩:=hrel;obtain ⟨q0,hq0⟩:=HW.out;subst hq0;clear HW;by_cases hlt:i<n
  · have hlt':i<L.length:=(by rw [←HN.out];exact hlt);obtain ⟨b,off,rfl,hc⟩:=HS.out.get hlt';obtain ⟨ab,cb,d0,d1,h1,h2,_⟩:=xH (hc i hlt');have hbd:=q8.out L[i] (List.getElem_mem _);have hsl:=Bx.size_le (List.getElem_mem hlt');have hr:=Bx.TQ L;obtain ⟨p,hp0,hp1,hp2,hp3⟩:=HP.out;have hrd:=hr p i hlt';have E_:=aj (Bx.TU L i hlt');have hnew:∀ j (h:j<L.length),i+1=j+1→L[i].1=L[j].1:=fun j _ e=>(by obtain rfl:i=j:=ak;rfl);have agv:i=0∨∃ j,∃ h:j<L.length,i=j+1∧p=L[j].1∧W.cell? ⟨b,off+j*2,none⟩=some (.int .i64 p):=by
     cases i with
     | zero=>exact Or.inl rfl
     | succ j=>have hj:j<L.length:=ak;refine Or.inr ⟨j,hj,rfl,hp3 j hj rfl,?_⟩;rw [hp3 j hj rfl];exact (hc j hj).1
    have U1:=aj hnew;have HSL:=aj hsl;have KF:=aj (show Bx.iQ 0 L=((decide (p<L[i].1) && decide (L[i].1≤255)) && Bx.iQ L[i].1 (L.drop (i+1))) by rw [←hp1];exact hrd);generalize agw:L[i].1=id at *;have TA:L[i].2.length≤90000:=(by have:=qN.out;omega);generalize L[i].2.length=m at *;have agx:=hp2;have ni:=aj hp2;clear hc hr hrd hp1 hp2 agx hp3 agw hnew hsl HP;have lS:(i:Int)<n:=ak;have hm6:decide (100000<(m:Int))=false:=decide_eq_false ak;have U3:(¬ p<id∨¬ id≤255)→r=false:=fun hh=>(by rw [HM.out,KF.out];rcases hh with hh | hh;{rw [decide_eq_false hh];simp};{rw [decide_eq_false hh];simp});have jX:=aj U3;clear U3;rcases agv with h0 | ⟨j,hj,hij,hpj,e0⟩
    · have hpz:p=0:=ni.out h0;subst hpz;subst h0;rw [Nat.zero_mul,Nat.add_zero] at d0 d1;rcases (show id<1∨(1≤id∧255<id)∨(1≤id∧id≤255) by omega) with g1 | ⟨g1,g2⟩ | ⟨g1,g2⟩;{have HF:=aj (jX.out (Or.inl ak));have b1:decide (id<1)=true:=decide_eq_true g1;go_wp2;(go_quiet (fail));go_wp2;go_ret;exact ⟨gF HF.out.symm,bn (bn (Below.refl _ _) _) _⟩};{have HF:=aj (jX.out (Or.inr ak));have b1:decide (id<1)=false:=decide_eq_false ak;have b2:decide (255<id)=true:=decide_eq_true g2;go_wp2;(go_quiet (fail));go_wp2;go_ret;exact ⟨gF HF.out.symm,bn (bn (Below.refl _ _) _) _⟩}
      · have b1:decide (id<1)=false:=decide_eq_false ak;have b2:decide (255<id)=false:=decide_eq_false ak;go_wp2;(go_quiet (fail));go_wp2;go_roundw
        (case rel=>exact ⟨0+1,z+m,ak,aN,aN,by have:=HZ.out;have:=HN.out;have:=E_.out;have:=qN.out;have:=Bx.Kc L 0;unfold Bx.total at *;omega,aj (by have:=HZ.out;have:=E_.out;omega),aj ⟨id,ak,by rw [KF.out,decide_eq_true ak,decide_eq_true ak];rfl,fun e=>ak,fun j h e=>U1.out j h e⟩,aj ⟨q0+nq,by first | rfl | rw [World.drewN_drewN]⟩⟩);case measure=>simp [intOf];omega
    · subst hij;clear hpj;have hj1:(j:Int)+1<n:=ak;have hgt:decide ((0:Int)<((j+1:Nat):Int))=true:=decide_eq_true ak;have hgt2:decide ((0:Int)<(j:Int)+1)=true:=decide_eq_true ak;rcases (show id<1∨(1≤id∧255<id)∨(1≤id∧id≤255∧id≤p)∨(1≤id∧id≤255∧p<id) by omega) with g1 | ⟨g1,g2⟩ | ⟨g1,g2,g3⟩ | ⟨g1,g2,g3⟩;{have HF:=aj (jX.out (Or.inl ak));have b1:decide (id<1)=true:=decide_eq_true g1;go_wp2;(go_quiet (fail));go_wp2;go_ret;exact ⟨gF HF.out.symm,bn (bn (Below.refl _ _) _) _⟩};{have HF:=aj (jX.out (Or.inr ak));have b1:decide (id<1)=false:=decide_eq_false ak;have b2:decide (255<id)=true:=decide_eq_true g2;go_wp2;(go_quiet (fail));go_wp2;go_ret;exact ⟨gF HF.out.symm,bn (bn (Below.refl _ _) _) _⟩};{have HF:=aj (jX.out (Or.inl ak));have b1:decide (id<1)=false:=decide_eq_false ak;have b2:decide (255<id)=false:=decide_eq_false ak;have b3:decide (id≤p)=true:=decide_eq_true g3;go_wp2;(go_quiet (fail));go_wp2;go_ret;exact ⟨gF HF.out.symm,bn (bn (Below.refl _ _) _) _⟩}
      · have b1:decide (id<1)=false:=decide_eq_false ak;have b2:decide (255<id)=false:=decide_eq_false ak;have b3:decide (id≤p)=false:=decide_eq_false ak;go_wp2;(go_quiet (fail));go_wp2;go_roundw
        (case rel=>exact ⟨j+1+1,z+m,ak,aN,aN,by have:=HZ.out;have:=HN.out;have:=E_.out;have:=qN.out;have:=Bx.Kc L 0;unfold Bx.total at *;omega,aj (by have:=HZ.out;have:=E_.out;omega),aj ⟨id,ak,by rw [KF.out,decide_eq_true ak,decide_eq_true ak];rfl,fun e=>ak,fun j h e=>U1.out j h e⟩,aj ⟨q0+nq,by first | rfl | rw [World.drewN_drewN]⟩⟩);case measure=>simp [intOf];omega
  {obtain rfl:i=n:=ak;have hd:L.drop i=[]:=List.drop_of_length_le (by rw [←HN.out];exact Nat.le_refl _);have hz1:=HZ.out;obtain ⟨p,_,hp1,_⟩:=HP.out;rw [hd] at hz1 hp1;have hz2:z=Bx.total L:=hz1;have hr2:Bx.iQ 0 L=true:=hp1.symm;have HF:=aj (show r=(decide (i≤8) && decide (z≤100000)) by rw [HM.out,hr2,hz2,Bool.and_true]);clear hz1 hp1 hz2 hr2 hd HZ HP HM;by_cases h8:i≤8;{have h8I:(i:Int)≤8:=ak;go_wp2;go_ret;exact ⟨gF (by rw [HF.out,decide_eq_true h8,Bool.true_and,decide_eq_decide];omega),bn (Below.refl _ _) _⟩};{have h8I:(8:Int)<i:=ak;go_wp2;go_ret;exact ⟨gF (by rw [HF.out,decide_eq_false h8];rfl),bn (Below.refl _ _) _⟩}}
theorem KG (k:Nat) (W:World) (hk:k<16777216) :
  Calls prog 69 #[.int .i64 k] W fun e W'=>e=.returned (.slice (some ⟨W.heap.size,0,none⟩) 3 3)∧W'=W.alloc (.cells ((Bx.three k).map aM).toArray 5):=by have e1:(k:Int) / 65536=((k / 65536 % 256:Nat):Int):=ak;have e2:(k:Int) / 256 % 256=((k / 256 % 256:Nat):Int):=ak;have e3:(k:Int) % 256=((k % 256:Nat):Int):=ak;have EE:=aj (show (#[Value.int .u8 ((k:Int) / 65536),Value.int .u8 ((k:Int) / 256 % 256),Value.int .u8 ((k:Int) % 256)]:Array Value)=((Bx.three k).map aM).toArray by rw [e1,e2,e3];rfl);clear e1 e2 e3;go_enter func69,ntmps69;go_wp2;go_ret;exact ⟨rfl,by rw [EE.out]⟩
theorem U4 {w:World} {P:Program} {ops:Array Oper} {o:Oper} {a:Act} {K:Act→World→Prop} {Q:Exit→Act→World→Prop} {E:Prop} (hgd:o.guard=none) (s x:Operand) (t:TypeId)
  (ho:o.op=.call { callee:=.builtin .append,args:=#[s,x],argTypes:=#[t,t] })
  (base:Nat) (e:TypeId) (i:TypeInfo) (z:Value) (bytes:Nat) (ht:P.underlying t=some (.slice e)) (hi:P.info? e=some i) (hz:i.zero=some z)
  (hsize:i.size=1) (hby:i.bytes=bytes) (hzs:z.cells.size=1)
  (v:Value) (n:Nat) (xs:List Value) (us:List Value) (m:Nat) (hm:m=us.length) (hs:a.eval s=v) (hown:w.ownsRow base e 1 v n xs)
  (H:Nat) (hx:a.eval x=.slice (some ⟨H,0,none⟩) m m) (hc:∀ j u,us[j]?=some u→w.cell? ⟨H,j,none⟩=some u) (h1:∀ u∈us,u.oneCell'=true)
  (h63:n+m≤maxLen) (hbytes:(n+m)*bytes≤140737488355328) (hbase:base≤w.heap.size)
  (h:∀ v' w',w'.ownsRow base e 1 v' (n+m) (xs++us)→w.grownBy w' v.ownBlock→Moved w v v'→K (a.put o.dst v') w') :
  if Region.wanted o (yielded ops a.tmps)=true then Oper.wp P o a w K Q else E:=by
 have hwd:Region.wanted o (yielded ops a.tmps)=true:=by simp [Region.wanted,hgd]
 rw [if_pos hwd];subst hm;obtain ⟨v',w',hr,h2,h3,h4⟩:=yc (P:=P) (w:=w) base t o.type e i z 1 bytes ht hi hz hsize hby hzs aL v n xs hown ⟨H,0,none⟩ us.length us.length us aI (by intro j u' hu;rw [gG rfl,Nat.zero_add];exact hc j u' hu) h1 h63 hbytes hbase;have hk:=h v' w' h2 h3 h4;unfold Oper.wp execOp;simp only [ho,resolve,invoke,builtin,Sem.run_bind,Sem.run_pure,Result.andThen_ok,List.map_toArray,List.map_cons,List.map_nil,hs,hx,hr];exact hk
theorem agy (a:Option Addr) (n cap:Nat) (L:List Bx.aY) (W:World) (hn:n=L.length) (h:fP W (.slice a n cap) L) (Bg:n≤500) (hsz:Bx.sizes L≤90000) (hb:∀ s∈L,-9223372036854775808≤s.1∧s.1≤9223372036854775807) (hM:¬ Bx.May L) :
  Calls prog 28 #[.slice a n cap] W fun e W'=>e=.returned (.tuple #[.slice none 0 0,.int .i64 1])∧Below W.heap.size W W':=by
 have MB:=aj (U0 a n cap L W hn h Bg hsz hb);have hf:Bx.kF L=false:=by cases h:Bx.kF L with
  | false=>rfl
  | true=>exact absurd ((Bx.EU L).1 h) hM
 rw [hf] at MB;clear hn h hb hM hf;go_enter func28,ntmps28;go_wp2_with (go_at_call 68;refine MB.out.mono ?_;rintro e w' ⟨rfl,hB⟩)
 go_ret2
 exact ⟨rfl,hB⟩
theorem KH (a:Option Addr) (n cap:Nat) (L:List Bx.aY) (W:World) (hn:n=L.length) (h:fP W (.slice a n cap) L) (Bg:n≤500) (hsz:Bx.sizes L≤90000) (hM:Bx.May L) (hby:Bx.Bytes L) :
  Calls prog 28 #[.slice a n cap] W fun e W'=>∃ v,e=.returned (.tuple #[v,.int .i64 0])∧Below W.heap.size W W'∧W'.ownsRow W.heap.size 5 1 v (Bx.total L) ((Bx.file L).map aM):=by
 obtain ⟨i0,hi,hz0,hz1,hz2⟩:=info_parts Tryz.infobx5;have hbd:∀ s∈L,(1≤s.1∧s.1≤255)∧s.2.length≤100000:=fun s hs=>by have h1:=Bx.J9 hM.2.1 s hs;have h2:=Bx.size_le hs;have h3:=hM.2.2;unfold Bx.total at h3;omega
 have MB:=aj (U0 a n cap L W hn h Bg hsz (fun s hs=>by have:=hbd s hs;omega));rw [(Bx.EU L).2 hM] at MB;have HN:=aj hn;have HS:=aj h;have HM:=aj hM;have Kn:=aj hby
 have q8:=aj hbd;have Ao:n≤8:=by have:=hM.1;omega
 have htot:=hM.2.2;have hlen:L.length % 256=n:=ak;have HLEN:=aj hlen;clear hn h hM hby hbd hlen hsz Bg;go_enter func28,ntmps28;go_upto_region 3 with (go_at_call 68;refine MB.out.mono ?_;rintro e w1 ⟨rfl,hB1⟩)
 have HB1:=aj hB1;clear hB1 MB;have hz1':=HB1.out.size;have agz:(n:Int) % 256=n:=ak;have kc:=fun (w:World) (C:Array Value) (n c:Nat)=>Lib.run_convert_bytes_const (P:=prog) w 32 5 C n c underlying32 underlying5;go_wp2_with (at_builtin;go_loud (refine Ud rfl (.tmp 11) (.tmp 15) 32 rfl 5 i0 _ 1 underlying32 hi hz0 hz1 hz2 rfl w1.heap.size 4 ([84,82,73,86].map aM) rfl rfl ?holds (w1.heap.size+1) 2 2 ([1,n].map aM) rfl rfl ?news ?one aL ?b1 ?b2 ?_))
 case holds=>intro j u hj;rw [World.cell?_alloc_lt _ _ _ aI];rw [fD];simpa [aM] using hj
 case news=>intro j u hj;rw [World.cell?_alloc_at _ _ _ _ aI];simpa [aM] using hj
 case one=>intro u hu;obtain ⟨c,_,rfl⟩:=List.mem_map.1 hu;rfl
 case b1=>unfold maxLen;omega
 case b2=>omega
 intro v4 w4 hown hb4;have hpre:(pre L 0).map aM=[aM 84,aM 82,aM 73,aM 86,aM 1,aM n]:=by unfold pre;rw [HLEN.out];rfl
 have jA:=aj (show w4.ownsRow W.heap.size 5 1 v4 6 ((pre L 0).map aM) by rw [hpre];exact A9 hown ak);have aT:=aj (show Below W.heap.size W w4 from by refine (((HB1.out.alloc hz1' _).alloc (by simp;omega) _)).trans (hb4.mono ak));clear hown hb4 hpre kc agz;go_wp2;go_loopw [4,5] (fun s4 s5 wr=>∃ (i:Nat) (v:Value),i≤n∧s5=.int .i64 i∧s4=v∧Hid (wr.ownsRow W.heap.size 5 1 v (6+7*i) ((pre L i).map aM))∧Hid (Below W.heap.size W wr)) (fun _ s5 _=>n-(intOf s5).toNat)
 case atStart=>exact ⟨0,v4,ak,rfl,rfl,jA,aT⟩
 case round=>
  obtain ⟨i,v,hin,rfl,hv,HO,HB⟩:=hrel;have hv2:=hv.symm;subst hv2;clear hv;by_cases hlt:i<n
  · have hlt':i<L.length:=(by rw [←HN.out];exact hlt);obtain ⟨b,off,rfl,hc⟩:=HS.out.get hlt';obtain ⟨ab,cb,D0,D1,h1,h2,hbody⟩:=xH (hc i hlt');have HD1:=aj D1;have d0:=aD HB.out D0;have d1:=aD HB.out D1;have hbd:=q8.out L[i] (List.getElem_mem _);have hby:=Kn.out L[i] (List.getElem_mem _);have hsn:=Ug L i hlt';generalize L[i]=s at *;obtain ⟨id,body⟩:=s;simp only at *;obtain ⟨k,rfl⟩:∃ k:Nat,id=k:=⟨id.toNat,ak⟩;have hk:(((k:Int) % 256).toNat)=k:=ak;rw [hk] at hsn;have lS:(i:Int)<n:=ak;obtain ⟨m,hm⟩:=aB body.length;rw [←hm] at d1 h1 hbd hsn hbody HD1;unfold maxLen at h2;have oz:=aj hsn;have tF:=aj hbody;have tH:=aj hby
    have hsm:=Cr.sum_lt body hby
    have mF:=HB.out.size;clear hc hm hk hsn hby hbody D0 D1;(go_upto_region 7 with fail);have hkW:IntKind.u8.wrap (k:Int)=(k:Int):=(by show (k:Int) % 256=k;omega);have hblt:b<wr.heap.size:=lt_of_cell d1;have hbne:b≠wr.heap.size:=ak;go_cut [4] (fun s4 wx=>∃ v6,s4=v6∧Hid (wx.ownsRow W.heap.size 5 1 v6 (6+7*i+1+3) ((pre L i++[k]++Bx.three m).map aM))∧Hid (Below W.heap.size W wx))
    case first=>
     go_region_law (first
      | (refine U4 (by rfl) (.tmp 23) (.tmp 30) 32 (by rfl) W.heap.size 5 i0 _ 1 underlying32 hi hz0 hz1 hz2 rfl v _ _ ([k].map aM) 1 rfl (by rfl) (xI HO.out (((Below.refl _ _).drew).alloc aF _)) wr.heap.size (by rfl) ?c1 ?o1 ?b1 ?b2 ?b3 ?_
         case c1=>(intro j u hj;refine (fD wr.drew _ _ _ j).trans ?_;simpa [aM] using hj)
         case o1=>(intro u hu;obtain ⟨c,_,rfl⟩:=List.mem_map.1 hu;rfl)
         case b1=>(unfold maxLen;omega)
         case b2=>omega
         case b3=>(simp;omega)
         intro v3 w3 g1 g2 g3
         have HB3:=aj (((HB.out.drew).alloc mF _).grown g2 (by simp;omega) (fun k hk=>(HO.out.lt k hk).1))
         have k1:=aD HB3.out HD1.out
         have G1:=aj g1
         clear g1 g2 g3)
      | (go_simp;go_at_call 69;refine (KG m _ ak).mono ?_;rintro e w' ⟨rfl,rfl⟩)
      | (refine U4 (by rfl) (.tmp 31) (.tmp 38) 32 (by rfl) W.heap.size 5 i0 _ 1 underlying32 hi hz0 hz1 hz2 rfl v3 _ _ ((Bx.three m).map aM) 3 rfl (by rfl) (G1.out.alloc _) w3.heap.size (by rfl) ?c2 ?o2 ?b4 ?b5 ?b6 ?_
         case c2=>(intro j u hj;rw [fD];simpa using hj)
         case o2=>(intro u hu;obtain ⟨c,_,rfl⟩:=List.mem_map.1 hu;rfl)
         case b4=>(unfold maxLen;omega)
         case b5=>omega
         case b6=>(have:=HB3.out.size;simp;omega)
         intro v5 w5 g1 g2 g3
         have aO:=aj ((HB3.out.alloc HB3.out.size _).grown g2 (by have:=HB3.out.size;simp;omega) (fun k hk=>(G1.out.lt k hk).1))
         have G5:=aj g1
         clear g1 g2 g3))
     all_goals
      go_wp2_with fail
      go_meet
      exact ⟨_,rfl,aj (by rw [List.map_append,List.map_append];exact G5.out),aO⟩
    case rest=>
     obtain ⟨v6,hv6,ru,aU⟩:=hcut;have agA:=hv6.symm;subst agA;clear hv6 d0 d1 hblt hbne hkW;have d1:=aD aU.out HD1.out;have jf:=aU.out.size;have CS:=aj (UW (.slice ab m cb) body wc (tF.out.keep aU.out) tH.out);have TH:=aj (KG (Cr.sum body) wc hsm);go_wp2_with (first
      | (go_at_call 70;refine CS.out.mono ?_;rintro e w' ⟨rfl,dS⟩;subst dS)
      | (go_at_call 69;refine TH.out.mono ?_;rintro e w' ⟨rfl,rfl⟩)
      | (at_builtin;refine yx rfl (.tmp 40) (.tmp 47) 32 rfl W.heap.size 5 i0 _ 1 underlying32 hi hz0 hz1 hz2 rfl v6 _ _ ((Bx.three (Cr.sum body)).map aM) 3 rfl wc rfl rfl ru.out wc.heap.size rfl rfl ?one ?b1 ?b2 jf ?_))
     (case one=>intro u hu;obtain ⟨c,_,rfl⟩:=List.mem_map.1 hu;rfl);(case b1=>unfold maxLen;omega);(case b2=>omega);intro v7 w7 g1 g2 g3;have lU:=aj (show w7.ownsRow W.heap.size 5 1 v7 (6+7*i+1+3+3) ((pre L (i+1)).map aM) by rw [←oz.out];simpa only [List.map_append,List.map_cons,List.map_nil,List.append_assoc,List.cons_append,List.nil_append] using g1);have bS:=aj (aU.out.grown g2 jf (fun k hk=>(ru.out.lt k hk).1));clear g1 g2 g3 CS TH;go_wp2;go_roundw
     (case rel=>exact ⟨i+1,v7,ak,aN,rfl,aj (by rw [show 6+7*(i+1)=6+7*i+1+3+3 by omega];exact lU.out),bS⟩);case measure=>simp [intOf];omega
  · obtain rfl:i=n:=ak;have hpa:pre L i=Bx.head L:=(by rw [HN.out];exact Uf L);rw [hpa] at HO;have vE:=Kl (Km L);have hsl:=Cr.sum_lt _ vE;have rz:=Bx.vw L;rw [←HN.out] at rz;have qh:=aj vE;obtain ⟨a5,cap5,hv,_,_,_,_⟩:=rF HO.out;subst hv;have mF:=HB.out.size;have A_:=aj (tC HO.out rz.symm);have CS:=aj (UW _ _ wr A_.out qh.out);have TH:=aj (KG (Cr.sum (Bx.head L)) wr hsl);have Kr:=aj rz;clear hpa vE rz;go_wp2_with (first
     | (go_at_call 70;refine CS.out.mono ?_;rintro e w' ⟨rfl,dS⟩;subst dS)
     | (go_at_call 69;refine TH.out.mono ?_;rintro e w' ⟨rfl,rfl⟩)
     | (at_builtin;refine yx rfl (.tmp 49) (.tmp 52) 32 rfl W.heap.size 5 i0 _ 1 underlying32 hi hz0 hz1 hz2 rfl (.slice a5 (6+7*i) cap5) _ _ ((Bx.three (Cr.sum (Bx.head L))).map aM) 3 rfl wr rfl rfl HO.out wr.heap.size rfl rfl ?one ?b1 ?b2 mF ?_))
    (case one=>intro u hu;obtain ⟨c,_,rfl⟩:=List.mem_map.1 hu;rfl);(case b1=>unfold maxLen;omega);(case b2=>omega);intro v6 w6 g1 g2 g3;rw [←List.map_append,Ui] at g1;have lU:=aj g1;have aU:=aj (HB.out.grown g2 mF (fun k hk=>(HO.out.lt k hk).1));clear g1 g2 g3 A_ CS TH;have mG:6+7*i+3=(post L 0).length:=(by unfold post;rw [List.length_append,List.length_append,Bx.vw,Bx.AZ,←HN.out];simp [Bx.bodies]);rw [mG] at lU;clear mG HO jA aT Kr hsl mF;go_wp2;go_loopw [4,6] (fun s4 s6 wr=>∃ (j:Nat) (v:Value),j≤i∧s6=.int .i64 j∧s4=v∧Hid (wr.ownsRow W.heap.size 5 1 v (post L j).length ((post L j).map aM))∧Hid (Below W.heap.size W wr)) (fun _ s6 _=>i-(intOf s6).toNat)
    (case atStart=>exact ⟨0,v6,ak,rfl,rfl,lU,aU⟩);case round=>
     obtain ⟨j,v,hji,rfl,hv,HO,HB⟩:=hrel;have hv2:=hv.symm;subst hv2;clear hv;by_cases hlt2:j<i
     · have hlt':j<L.length:=(by rw [←HN.out];exact hlt2);obtain ⟨b,off,rfl,hc⟩:=HS.out.get hlt';obtain ⟨ab,cb,d0,d1,h1,h2,hbody⟩:=xH (hc j hlt');have d1:=aD HB.out d1;have hbd:=q8.out L[j] (List.getElem_mem _);have hsn:=Uk L j hlt';have hpl:=Uh L (j+1);generalize L[j]=s at *;obtain ⟨id,body⟩:=s;simp only at *;rw [←hsn,List.length_append] at hpl;have lS:(j:Int)<i:=ak;obtain ⟨m,hm⟩:=aB body.length;rw [←hm] at d1 h1 hbd hbody hpl;unfold maxLen at h2;have jW:=aj hm;have oz:=aj hsn;have tF:=aj (hbody.keep HB.out);have mF:=HB.out.size;have HOL:=aj (fun g hg=>HO.out.lt g hg:∀ g,v.ownBlock=some g→W.heap.size≤g∧g<wr.heap.size);obtain ⟨pl,mG⟩:=aB ((post L j).length);rw [←mG] at HO hpl;have zx:=aj mG;clear hc hm hsn hbody mG d0;(go_wp2_with (at_builtin;refine kP rfl (.tmp 60) (.tmp 65) 32 rfl W.heap.size 5 i0 _ 1 underlying32 hi hz0 hz1 hz2 rfl v _ _ rfl HO.out ab m cb (fun t=>aM (body.getD t 0)) rfl ?nil ?row ?one ?b1 ?b2 ?base ?_));(case nil=>obtain ⟨a',c',e,_,_,hn,_⟩:=bD.open tF.out;simp only [Value.slice.injEq] at e;obtain ⟨rfl,_,rfl⟩:=e;intro h;have:=hn h;exact ⟨by rw [jW.out];exact this.1,this.2⟩);(case row=>exact (bD.row tF.out).2);(case one=>intro t _;rfl);(case b1=>unfold maxLen;omega);(case b2=>omega);(case base=>exact mF);intro v3 w3 g1 g2;have o_:(List.range m).map (fun t=>aM (body.getD t 0))=body.map aM:=(by rw [jW.out];refine List.ext_getElem aI fun t q1 q2=>?_;simp only [List.getElem_map,List.getElem_range];rw [List.getD,List.getElem?_eq_getElem (by simpa using q2)];rfl);have oh:=aj (show w3.ownsRow W.heap.size 5 1 v3 (post L (j+1)).length ((post L (j+1)).map aM) by rw [←oz.out,List.map_append,List.length_append,←zx.out,←jW.out,←o_];exact g1);have HB3:=aj (HB.out.grown g2 mF (fun k hk=>(HOL.out k hk).1));clear g1 g2 o_;go_wp2;go_roundw
       (case rel=>exact ⟨j+1,v3,ak,aN,rfl,oh,HB3⟩);case measure=>simp [intOf];omega
     · obtain rfl:j=i:=ak;have hpa:post L j=Bx.file L:=(by rw [HN.out];exact Uj L);rw [hpa,Bx.sZ] at HO;clear hpa;go_wp2;go_ret2
       exact ⟨v,rfl,HB.out,HO.out⟩
end Go.Proofs.YtjaebndajhppgaaGreatDoor
