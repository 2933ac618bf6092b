/-PrEsc2-/
import Derived.Test.YtockbaekcbeenaaGreatDoorMkHd0
import Derived.Test.YtockbaekcbeenaaGreatDoorMkGPr1
import Derived.Test.YtockbaekcbeenaaGreatDoorMkGLn1
import Derived.Test.YtockbaekcbeenaaGreatDoorMkShelf
import Derived.Lib.ConvBytes
import Derived.Deep.RegionWith
set_option linter.unusedVariables false
set_option linter.unusedSimpArgs false
set_option maxRecDepth 100000
set_option maxHeartbeats 4000000
namespace Go.Proofs.YtockbaekcbeenaaGreatDoor
open Go.Proofs.Tryz
open Go.ChangeShapes Go.WideShapes Go.ChangeAt Go.RowKit
theorem adA:∀ k:Fin 256,bits .or .u8 ((k.val:Nat):Int) 32=((k.val ||| 32:Nat):Int):=aL
theorem adB:∀ k:Fin 256,(97≤k.val∧k.val≤102→k.val ||| 32=k.val)∧(65≤k.val∧k.val≤70→k.val ||| 32=k.val+32)∧((k.val<65∨(70<k.val∧k.val<97)∨102<k.val)→(k.val ||| 32<97∨102<k.val ||| 32))∧k.val ||| 32<256:=aL
theorem adC (c:UInt8) (w:World):Calls prog 272 #[.int .u8 (c.toNat:Nat)] w fun e w'=>e=.returned (.int .u8 ((c.toNat ||| 32:Nat):Int))∧w'=w:=by have h:=adA ⟨c.toNat,c.toNat_lt⟩;simp only at h;have H:=aj h;clear h;go_enter func272,ntmps272;go_wp2;go_ret;exact ⟨congrArg (fun z=>Ending.returned (.int .u8 z)) H.out,rfl⟩
def adD (r:Option Nat):Value:=match r with
 | none=>.tuple #[.int .u64 0,.iface 332 (.int .i64 2)]
 | some x=>.tuple #[.int .u64 (x:Nat),.nilIface]
theorem R5 (s:List UInt8) (w:World) (h0:0<s.length) (h8:s.length≤8) :
  Calls prog 263 #[aA s,.int .i64 16,.int .i64 32] w fun e w'=>e=.returned (adD (Tm.fQ s.length s 0))∧Below w.heap.size w w':=by
 have hsz:(⟨s.toArray⟩:ByteArray).size=s.length:=by simp [ByteArray.size]
 have hcv:=Lib.run_convert_string_bytes (P:=prog) w 9 71 5 ⟨s.toArray⟩ (u:=.string) underlying9 underlying71 underlying5;have hB:∀ j,j<s.length→(Lib.bytesWorld w 5 ⟨s.toArray⟩).cell? ⟨w.heap.size,j,none⟩=some (.int .u8 (s.getD j 0).toNat):=fun j hj=>Lib.bytesWorld_cell w 5 ⟨s.toArray⟩ j (by rw [hsz];exact hj);have FV:=aj (show Below w.heap.size w (Lib.bytesWorld w 5 ⟨s.toArray⟩) by exact ⟨rfl,rfl,rfl,by rw [Lib.bytesWorld_size];omega,fun i hi=>Lib.bytesWorld_at_old w 5 _ i hi⟩);rw [hsz] at hcv;obtain ⟨W1,hW1⟩:=aC (Lib.bytesWorld w 5 ⟨s.toArray⟩);rw [←hW1] at hcv hB FV;have hem:(s==[])=false:=by cases s with
  | nil=>simp at h0
  | cons _ _=>rfl
 obtain ⟨ANS,hA⟩:=aC (Tm.fQ s.length s 0);rw [←hA];have HA:=aj (show ANS=Tm.fQ (s.length-0) (s.drop 0) 0 by rw [hA];rfl);have hLz:(s.length:Int)≤8:=ay;clear hA hW1;go_enter func263,ntmps263;go_wp2;go_loop [12,13,101] (fun vu vn vi=>∃ (k acc:Nat) (a:Int),vu=.bool false∧vn=.int .u64 a∧vi=.int .i64 k∧k≤s.length∧Hid (a=(acc:Int)∧acc<16 ^ k∧ANS=Tm.fQ (s.length-k) (s.drop k) acc))
  (fun _ _ vi=>s.length-(intOf vi).toNat)
 case atStart=>exact ⟨0,0,0,rfl,rfl,rfl,ay,rfl,aL,HA.out⟩
 case round=>
  obtain ⟨k,acc,a,rfl,rfl,rfl,hk,hh⟩:=hrel;obtain ⟨ha,hacc,hdec⟩:=hh.out;clear hh;have a0:0≤a:=ay;by_cases hkn:k<s.length
  · have ahE:acc<268435456:=Nat.lt_of_lt_of_le hacc (aal k ay);have a1:a<268435456:=ay;have hc:=hB k hkn;obtain ⟨c,hget⟩:∃ c,s[k]?=some c:=⟨_,List.getElem?_eq_getElem hkn⟩;have hgd:s.getD k 0=c:=(by rw [List.getD,hget];rfl);rw [hgd] at hc;have HST:=aj (hdec.trans ((congrArg (fun n=>Tm.fQ n (s.drop k) acc) (show s.length-k=s.length-(k+1)+1 by omega)).trans (aam (s.length-(k+1)) s k acc c hget)));have LOW:=aj fun w=>adC c w;have hc256:c.toNat<256:=c.toNat_lt;obtain ⟨f1,f2,f3,f4⟩:=adB ⟨c.toNat,hc256⟩;simp only at f1 f2 f3 f4;have HP:=aj (fun d (hd:d<16)=>show acc*16+d<16 ^ (k+1) by rw [Nat.pow_succ];omega);obtain ⟨lw,uI⟩:∃ lw,lw=c.toNat ||| 32:=⟨_,rfl⟩;rw [←uI] at f1 f2 f3 f4 LOW;clear hB hget hgd hdec hacc uI;rcases (show (c.toNat<48∨(57<c.toNat∧c.toNat<65)∨(70<c.toNat∧c.toNat<97)∨102<c.toNat)∨(48≤c.toNat∧c.toNat≤57)∨(97≤c.toNat∧c.toNat≤102)∨(65≤c.toNat∧c.toNat≤70) by omega) with h | ⟨h,h'⟩ | ⟨h,h'⟩ | ⟨h,h'⟩
    · have HF:=aj (show ANS=none by rw [HST.out,aaq h]);have hlow:lw<97∨122<lw∨(102<lw∧lw≤122):=(by have:=f3 ay;omega);clear f1 f2 f3 HST HP ha;rcases (show c.toNat<48∨(57<c.toNat∧c.toNat<65)∨(70<c.toNat∧c.toNat<95)∨(c.toNat=95∧70<c.toNat∧c.toNat<97)∨(95<c.toNat∧c.toNat<97)∨102<c.toNat by omega) with h | ⟨h,h'⟩ | ⟨h,h'⟩ | ⟨h,h',h''⟩ | ⟨h,h'⟩ | h;case inr.inr.inr.inl=>
       have b1:((c.toNat:Int)==95)=true:=beq_iff_eq.2 ay;clear h;rcases hlow with g | g | ⟨g,g'⟩;all_goals
        go_wp2_with (go_at_call 272;refine (LOW.out _).mono ?_;rintro e w' ⟨rfl,eD⟩;have hw2:=eD.symm;subst hw2)
        go_ret2
        exact ⟨by rw [HF.out];rfl,FV.out⟩
      all_goals
       rcases hlow with g | g | ⟨g,g'⟩
       all_goals
        go_wp2_with (go_at_call 272;refine (LOW.out _).mono ?_;rintro e w' ⟨rfl,eD⟩;have hw2:=eD.symm;subst hw2)
        go_ret2
        exact ⟨by rw [HF.out];rfl,FV.out⟩
    {have HF:Hid (a*16+((c.toNat:Int)-48)=((acc*16+(c.toNat-48):Nat):Int)∧acc*16+(c.toNat-48)<16 ^ (k+1)∧ANS=Tm.fQ (s.length-(k+1)) (s.drop (k+1)) (acc*16+(c.toNat-48))):=aj ⟨ay,HP.out _ ay,by rw [HST.out,aan ⟨h,h'⟩]⟩;clear f1 f2 f3 HST HP ha;go_wp2;refine ⟨⟨k+1,acc*16+(c.toNat-48),a*16+((c.toNat:Int)-48),rfl,(by first | rfl | (congr 1;omega)),(by first | rfl | (congr 1;omega)),ay,HF⟩,by simp [intOf];omega⟩};{have HF:Hid (a*16+((lw:Int)-87)=((acc*16+(c.toNat-87):Nat):Int)∧acc*16+(c.toNat-87)<16 ^ (k+1)∧ANS=Tm.fQ (s.length-(k+1)) (s.drop (k+1)) (acc*16+(c.toNat-87))):=aj ⟨by have:=f1 ⟨h,h'⟩;omega,HP.out _ ay,by rw [HST.out,aao ⟨h,h'⟩]⟩;have g:97≤lw∧lw≤102:=(by have:=f1 ⟨h,h'⟩;omega);obtain ⟨g,g'⟩:=g;clear f1 f2 f3 HST HP ha;(go_wp2_with (go_at_call 272;refine (LOW.out _).mono ?_;rintro e w' ⟨rfl,eD⟩;have hw2:=eD.symm;subst hw2));refine ⟨⟨k+1,acc*16+(c.toNat-87),a*16+((lw:Int)-87),rfl,(by first | rfl | (congr 1;omega)),(by first | rfl | (congr 1;omega)),ay,HF⟩,by simp [intOf];omega⟩};{have HF:Hid (a*16+((lw:Int)-87)=((acc*16+(c.toNat-55):Nat):Int)∧acc*16+(c.toNat-55)<16 ^ (k+1)∧ANS=Tm.fQ (s.length-(k+1)) (s.drop (k+1)) (acc*16+(c.toNat-55))):=aj ⟨by have:=f2 ⟨h,h'⟩;omega,HP.out _ ay,by rw [HST.out,aap ⟨h,h'⟩]⟩;have g:97≤lw∧lw≤102:=(by have:=f2 ⟨h,h'⟩;omega);obtain ⟨g,g'⟩:=g;clear f1 f2 f3 HST HP ha;(go_wp2_with (go_at_call 272;refine (LOW.out _).mono ?_;rintro e w' ⟨rfl,eD⟩;have hw2:=eD.symm;subst hw2));refine ⟨⟨k+1,acc*16+(c.toNat-55),a*16+((lw:Int)-87),rfl,(by first | rfl | (congr 1;omega)),(by first | rfl | (congr 1;omega)),ay,HF⟩,by simp [intOf];omega⟩}
  · obtain rfl:k=s.length:=ay;have HF:=aj (show ANS=some acc by rw [hdec,Nat.sub_self];rfl);subst ha;clear hB hdec hacc;go_wp2;go_ret2
    exact ⟨by rw [HF.out];rfl,FV.out⟩
def cu (w:World):Prop:=∃ ev,w.cell? ⟨4,0,none⟩=some ev∧(ev=.nilIface∨∃ te pe,ev=.iface te pe)
theorem cu.keep {w w':World} (h:cu w) (hb:Below w.heap.size w w'):cu w':=by obtain ⟨ev,h1,h2⟩:=h;exact ⟨ev,(hb.cell (lt_of_cell h1)).trans h1,h2⟩
theorem cu.but {q:Nat} {w w':World} (h:cu w) (hb:aK q w w') (hq:q≠4):cu w':=by obtain ⟨ev,h1,h2⟩:=h;have hk:=hb.block 4 (lt_of_cell h1) (by simpa using fun e=>hq e.symm);refine ⟨ev,?_,h2⟩;rw [←h1];simp only [World.cell?,hk]
theorem Kr:∀ (n:Nat) (s:List UInt8) (x:Nat),n≤s.length→Tm.fQ (s.take n).length (s.take n) x=Tm.fQ n s x
 | 0,s,x,_=>by simp [Tm.fQ]
 | n+1,[],x,h=>by simp at h
 | n+1,c::t,x,h=>by
  simp only [List.length_cons] at h
  rw [List.take_succ_cons,List.length_cons]
  unfold Tm.fQ
  cases Tm.kL c with
  | none=>rfl
  | some d=>exact Kr n t _ ay
theorem R6:∀ (n:Nat) (s:List UInt8) (x y:Nat),Tm.fQ n s x=some y→y<(x+1)*16 ^ n
 | 0,s,x,y,h=>by
  unfold Tm.fQ at h;simp only [Option.some.injEq] at h;omega
 | n+1,[],x,y,h=>by unfold Tm.fQ at h;cases h
 | n+1,c::t,x,y,h=>by
  unfold Tm.fQ at h
  cases hc:Tm.kL c with
  | none=>rw [hc] at h;cases h
  | some d=>
   rw [hc] at h
   have h2:=R6 n t _ y h
   have hd:d<16:=by
    unfold Tm.kL at hc
    split at hc
    · simp only [Option.some.injEq] at hc;omega
    · split at hc
      · simp only [Option.some.injEq] at hc;omega
      · split at hc
        · simp only [Option.some.injEq] at hc;omega
        · cases hc
   rw [Nat.pow_succ,Nat.mul_comm (16 ^ n) 16,←Nat.mul_assoc]
   exact Nat.lt_of_lt_of_le h2 (Nat.mul_le_mul_right _ ay)
theorem adE (s:List UInt8) (x:Nat) (w:World) (h0:0<s.length) (h8:s.length≤8) (hx:Tm.fQ s.length s 0=some x) :
  Calls prog 249 #[aA s,.int .i64 16,.int .i64 32] w fun e w'=>e=.returned (.tuple #[.int .u64 (x:Nat),.nilIface])∧Below w.heap.size w w':=by
 have IP:=aj fun w=>R5 s w h0 h8;rw [hx] at IP;have Kt:Hid (∀ w,Calls prog 263 #[aA s,.int .i64 16,.int .i64 32] w fun e w'=>e=.returned (.tuple #[.int .u64 (x:Nat),.nilIface])∧Below w.heap.size w w'):=IP;clear IP;go_enter func249,ntmps249;go_wp2_with fail
 refine (Kt.out _).mono ?_;rintro e w2 ⟨rfl,hb⟩;have HB:=aj hb;clear hb;go_wp2;go_ret2
 exact ⟨rfl,HB.out⟩
theorem adF (s:List UInt8) (w:World) (hE:cu w) (h0:0<s.length) (h8:s.length≤8) (hx:Tm.fQ s.length s 0=none) :
  Calls prog 249 #[aA s,.int .i64 16,.int .i64 32] w fun e w'=>(∃ t a,e=.returned (.tuple #[.int .u64 0,.iface t (.pointer (some a))]))∧Below w.heap.size w w':=by
 have IP:=aj fun w=>R5 s w h0 h8;rw [hx] at IP;have Kt:Hid (∀ w,Calls prog 263 #[aA s,.int .i64 16,.int .i64 32] w fun e w'=>e=.returned (.tuple #[.int .u64 0,.iface 332 (.int .i64 2)])∧Below w.heap.size w w'):=IP;have HE:=aj hE;clear IP hE;go_enter func249,ntmps249;go_wp2_with fail
 refine (Kt.out _).mono ?_;rintro e w2 ⟨rfl,hb⟩;have HB:=aj hb;obtain ⟨ev,k1,k2⟩:=HE.out.keep hb;have TE:=aj fun fn=>Tryz.strconv_toError_syntax fn ⟨s.toArray⟩ 16 32 ev w2 (by simp [ByteArray.size];omega) k1 k2;clear hb k1 k2;go_wp2_with fail
 refine (TE.out _).mono ?_;rintro e w3 ⟨N,rfl,_,_,hb⟩;have HB3:=aj (aI HB.out hb);clear hb;go_wp2;go_ret2
 exact ⟨⟨_,_,rfl⟩,HB3.out⟩
def BX (r:Option Nat):Value:=match r with
 | some x=>.tuple #[.int .i32 (x:Nat),.bool true]
 | none=>.tuple #[.int .i32 0,.bool false]
theorem adG (x:Nat) (hx:x≤1114111) (w:World):Calls prog 250 #[.int .i32 (x:Nat)] w fun e w'=>e=.returned (.bool (decide (¬ (55296≤x∧x≤57343))))∧w'=w:=by
 have h:=Tryz.utf8_ValidRune (x:Int) w;have hv:Lib.validRune (x:Int)=decide (¬ (55296≤x∧x≤57343)):=by unfold Lib.validRune;rw [Bool.eq_iff_iff];simp only [decide_eq_true_eq];omega
 rw [hv] at h;exact h
theorem adH (q n:Nat) (l:List UInt8) (i:Nat) (w:World) (hE:cu w) (hn:n=4∨n=8) (hr:Pr w q l i) (hl:l.length≤100000000) (hi:i≤l.length) (hs:l.length<i+n) :
  Calls prog 230 #[bI q,.int .i64 (n:Nat)] w fun x w'=>x=.returned (BX (Tm.dR n (l.drop i)))∧(∃ j,j≤l.length∧(Tm.dR n (l.drop i)≠none→j=i+n)∧Pr w' q l j)∧aK q w w':=by
 obtain ⟨c0,c1,f0,f1⟩:=hr.cells;have HR:=aj hr;have HE:=aj hE;have qP:(i:Int)≤(l.length:Int):=ay;have Ku:n≤8:=ay;have hn0:0<n:=ay;clear hr hE;have HN:=aj (show Tm.dR n (l.drop i)=none by unfold Tm.dR;rw [Jb n _ 0 (by rw [List.length_drop];omega)]);have hz:decide ((l.length:Int)-(i:Int)<(n:Int))=true:=decide_eq_true ay;clear hn hs;go_enter func230,ntmps230;go_wp2;go_quiet (fail)
 go_wp2;go_ret2
 exact ⟨by rw [HN.out];rfl,⟨i,hi,fun h=>absurd HN.out h,HR.out⟩,aK.drawn q w _⟩
theorem adI (q n:Nat) (l:List UInt8) (i:Nat) (w:World) (hE:cu w) (hn:n=4∨n=8) (hr:Pr w q l i) (hl:l.length≤100000000) (hi:i≤l.length) (hs:¬ l.length<i+n) (hx:Tm.fQ n (l.drop i) 0=none) :
  Calls prog 230 #[bI q,.int .i64 (n:Nat)] w fun x w'=>x=.returned (BX (Tm.dR n (l.drop i)))∧(∃ j,j≤l.length∧(Tm.dR n (l.drop i)≠none→j=i+n)∧Pr w' q l j)∧aK q w w':=by
 obtain ⟨c0,c1,f0,f1⟩:=hr.cells;have HR:=aj hr;have HE:=aj hE;have qP:(i:Int)≤(l.length:Int):=ay;have Ku:n≤8:=ay;have hn0:0<n:=ay;clear hr hE;have hdl:n≤(l.drop i).length:=by rw [List.length_drop];omega
 have htl:((l.drop i).take n).length=n:=by rw [List.length_take];omega
 obtain ⟨m,hm⟩:=aC (i+n);have hex:(⟨l.toArray⟩:ByteArray).extract i m=⟨((l.drop i).take n).toArray⟩:=by rw [hm,u_];congr 3;omega
 have hw:IntKind.i64.wrap ((i:Int)+(n:Int))=(m:Int):=by rw [IntKind.wrap_i64];omega
 have him:i≤m:=ay;have hml:m≤l.length:=ay;have hmz:(i:Int)≤(m:Int):=ay;have adJ:(m:Int)≤(l.length:Int):=ay;have hz:decide ((l.length:Int)-(i:Int)<(n:Int))=false:=decide_eq_false ay;have HM:=aj hm;have HN:=aj (show Tm.dR n (l.drop i)=none by unfold Tm.dR;rw [hx]);have SP:=aj fun w h=>adF ((l.drop i).take n) w h ay ay (by rw [htl,←hx,←Kr n _ 0 hdl,htl]);clear hn hs hx hdl htl hm;go_enter func230,ntmps230;go_wp2;go_quiet (fail)
 go_wp2;go_region_with ((go_at_call 249;refine (SP.out _ (show cu (w.drewN (nq+1)) from HE.out)).mono ?_;rintro e w2 ⟨⟨t,a,rfl⟩,hb⟩;have HR2:Hid (Pr w2 q l i):=aj (by refine Pr.keep ?_ hb;exact HR.out);have kY:=HR2.out.cells;obtain ⟨d0,d1,g0,g1⟩:=kY))
 all_goals
  go_wp2
  go_ret2
  exact ⟨by rw [HN.out];rfl,⟨m,hml,fun h=>absurd HN.out h,HR2.out.to _⟩,(aK.below (aI (bV (Below.refl w.heap.size w) _) hb)).trans (aK.set q _ 1 _)⟩
theorem adK (q n:Nat) (l:List UInt8) (i:Nat) (w:World) (hE:cu w) (hn:n=4∨n=8) (hr:Pr w q l i) (hl:l.length≤100000000) (hi:i≤l.length) (x:Nat) (hs:¬ l.length<i+n) (hx:Tm.fQ n (l.drop i) 0=some x) :
  Calls prog 230 #[bI q,.int .i64 (n:Nat)] w fun x w'=>x=.returned (BX (Tm.dR n (l.drop i)))∧(∃ j,j≤l.length∧(Tm.dR n (l.drop i)≠none→j=i+n)∧Pr w' q l j)∧aK q w w':=by
 obtain ⟨c0,c1,f0,f1⟩:=hr.cells;have HR:=aj hr;have HE:=aj hE;have qP:(i:Int)≤(l.length:Int):=ay;have Ku:n≤8:=ay;have hn0:0<n:=ay;clear hr hE;have hdl:n≤(l.drop i).length:=by rw [List.length_drop];omega
 have htl:((l.drop i).take n).length=n:=by rw [List.length_take];omega
 obtain ⟨m,hm⟩:=aC (i+n);have hex:(⟨l.toArray⟩:ByteArray).extract i m=⟨((l.drop i).take n).toArray⟩:=by rw [hm,u_];congr 3;omega
 have hw:IntKind.i64.wrap ((i:Int)+(n:Int))=(m:Int):=by rw [IntKind.wrap_i64];omega
 have him:i≤m:=ay;have hml:m≤l.length:=ay;have hmz:(i:Int)≤(m:Int):=ay;have adJ:(m:Int)≤(l.length:Int):=ay;have hz:decide ((l.length:Int)-(i:Int)<(n:Int))=false:=decide_eq_false ay;have HM:=aj hm;have hxl:=R6 n _ 0 x hx;have hx32:x<4294967296:=by have h1:=Nat.pow_le_pow_right (show 0<16 by omega) Ku;have h2:(16:Nat) ^ 8=4294967296:=aL;omega
 have SP:=aj fun w=>adE ((l.drop i).take n) x w ay ay (by rw [htl,←hx,←Kr n _ 0 hdl,htl]);have HX:=aj hx;have VR:=aj fun h w=>adG x h w;clear hn hs hx hdl htl hm hxl;rcases (show 1114111<x∨(x≤1114111∧(55296≤x∧x≤57343))∨(x≤1114111∧¬ (55296≤x∧x≤57343)) by omega) with h | ⟨h,h'⟩ | ⟨h,h'⟩
 · have HN:=aj (show Tm.dR n (l.drop i)=none by unfold Tm.dR;rw [HX.out];simp only;rw [if_pos (.inl h)]);go_enter func230,ntmps230;go_wp2;(go_quiet (fail));go_wp2;go_region_with ((go_at_call 249;refine (SP.out (w.drewN (nq+1))).mono ?_;rintro e w2 ⟨rfl,hb⟩;have HR2:Hid (Pr w2 q l i):=aj (by refine Pr.keep ?_ hb;exact HR.out);have kY:=HR2.out.cells;obtain ⟨d0,d1,g0,g1⟩:=kY))
   all_goals
    go_wp2
    go_ret2
    exact ⟨by rw [HN.out];rfl,⟨m,hml,fun h=>absurd HN.out h,HR2.out.to _⟩,(aK.below (aI (bV (Below.refl w.heap.size w) _) hb)).trans (aK.set q _ 1 _)⟩
 · have HN:=aj (show Tm.dR n (l.drop i)=none by unfold Tm.dR;rw [HX.out];simp only;rw [if_pos (.inr h')]);have BZ:=aj (VR.out h);rw [decide_eq_false ay] at BZ;clear h';go_enter func230,ntmps230;go_wp2;(go_quiet (fail));go_wp2;go_region_with ((go_at_call 249;refine (SP.out (w.drewN (nq+1))).mono ?_;rintro e w2 ⟨rfl,hb⟩;have HR2:Hid (Pr w2 q l i):=aj (by refine Pr.keep ?_ hb;exact HR.out);have kY:=HR2.out.cells;obtain ⟨d0,d1,g0,g1⟩:=kY))
   all_goals
    go_wp2_with (go_at_call 250;refine (BZ.out _).mono ?_;rintro e w' ⟨rfl,eD⟩;have hw2:=eD.symm;subst hw2)
    go_ret2
    exact ⟨by rw [HN.out];rfl,⟨m,hml,fun h=>absurd HN.out h,HR2.out.to _⟩,(aK.below (aI (bV (Below.refl w.heap.size w) _) hb)).trans (aK.set q _ 1 _)⟩
 · have HN:=aj (show Tm.dR n (l.drop i)=some x by unfold Tm.dR;rw [HX.out];simp only;rw [if_neg ay]);have BZ:=aj (VR.out h);rw [decide_eq_true ay] at BZ;clear h';go_enter func230,ntmps230;go_wp2;(go_quiet (fail));go_wp2;go_region_with ((go_at_call 249;refine (SP.out (w.drewN (nq+1))).mono ?_;rintro e w2 ⟨rfl,hb⟩;have HR2:Hid (Pr w2 q l i):=aj (by refine Pr.keep ?_ hb;exact HR.out);have kY:=HR2.out.cells;obtain ⟨d0,d1,g0,g1⟩:=kY))
   all_goals
    go_wp2_with (go_at_call 250;refine (BZ.out _).mono ?_;rintro e w' ⟨rfl,eD⟩;have hw2:=eD.symm;subst hw2)
    go_ret2
    exact ⟨by rw [HN.out];rfl,⟨m,hml,fun _=>HM.out,HR2.out.to _⟩,(aK.below (aI (bV (Below.refl w.heap.size w) _) hb)).trans (aK.set q _ 1 _)⟩
theorem R7 (q n:Nat) (l:List UInt8) (i:Nat) (w:World) (hE:cu w) (hn:n=4∨n=8) (hr:Pr w q l i) (hl:l.length≤100000000) (hi:i≤l.length) :
  Calls prog 230 #[bI q,.int .i64 (n:Nat)] w fun x w'=>x=.returned (BX (Tm.dR n (l.drop i)))∧(∃ j,j≤l.length∧(Tm.dR n (l.drop i)≠none→j=i+n)∧Pr w' q l j)∧aK q w w':=by
 by_cases hs:l.length<i+n;{exact adH q n l i w hE hn hr hl hi hs}
 · cases hx:Tm.fQ n (l.drop i) 0 with
   | none=>exact adI q n l i w hE hn hr hl hi hs hx
   | some x=>exact adK q n l i w hE hn hr hl hi x hs hx
def jk (lit:Bool) (s:List UInt8):Option (Nat×Nat):=match s with
 | []=>none
 | c::t=>if c=117 then (Tm.dR 4 t).map (fun x=>(x,5)) else if c=85 then (Tm.dR 8 t).map (fun x=>(x,9)) else if lit then (Tm.letter c).map (fun d=>(d.toNat,1)) else none
theorem R8 {c d:UInt8} (h:Tm.letter c=some d):d.toNat<128:=by unfold Tm.letter at h;repeat (first | (split at h;· (simp only [Option.some.injEq] at h;subst h;decide)) | cases h)
theorem adL:∀ k:Fin 128,Tm.kg k.val=[UInt8.ofNat k.val]:=aL
theorem Kv (lit:Bool) (s:List UInt8):Tm.kM lit s=(jk lit s).map fun p=>(Tm.kg p.1,p.2):=by
 cases s with
 | nil=>rfl
 | cons c t=>
  have e0:Tm.kM lit (c::t)=if c=117 then (Tm.dR 4 t).map (fun x=>(Tm.kg x,5)) else if c=85 then (Tm.dR 8 t).map (fun x=>(Tm.kg x,9)) else if lit then (Tm.letter c).map (fun d=>([d],1)) else none:=rfl
  rw [e0];unfold jk;simp only;split;{rw [Option.map_map];rfl}
  · split;{rw [Option.map_map];rfl}
    · split
      · cases h:Tm.letter c with
        | none=>rfl
        | some d=>have h2:=adL ⟨d.toNat,R8 h⟩;simp only at h2;simp only [Option.map_some];rw [h2,UInt8.ofNat_toNat]
      {rfl}
theorem pU (q:Nat) (l p:List UInt8) (i:Nat) (w:World) (hr:Pr w q l i) (hl:l.length≤100000000) (hi:i≤l.length) (hp:p.length≤1000) (h:(l.drop i).take p.length=p) :
  Calls prog 127 #[bI q,aA p] w fun x w'=>x=.returned (.bool true)∧Pr w' q l (i+p.length)∧aK q w w':=by have:=RY q l p i w hr hl hi hp;rw [decide_eq_true h,if_pos h] at this;exact this
theorem jD (q:Nat) (l p:List UInt8) (i:Nat) (w:World) (hr:Pr w q l i) (hl:l.length≤100000000) (hi:i≤l.length) (hp:p.length≤1000) (h:(l.drop i).take p.length≠p) :
  Calls prog 127 #[bI q,aA p] w fun x w'=>x=.returned (.bool false)∧Pr w' q l i∧aK q w w':=by have:=RY q l p i w hr hl hi hp;rw [decide_eq_false h,if_neg h] at this;exact this
theorem take_one {s:List UInt8} {c:UInt8} (h:s.take 1=[c]):∃ t,s=c::t:=by
 cases s with
 | nil=>cases h
 | cons d t=>simp only [List.take_succ_cons,List.take_zero,List.cons.injEq,and_true] at h;exact ⟨t,by rw [h]⟩
def B_ (q i:Nat) (l:List UInt8) (w:World) (r:Option (Nat×Nat)) (x:Ending) (w':World):Prop:=
 x=.returned (BX (r.map (·.1)))∧(∃ j,j≤l.length∧(∀ p,r=some p→j=i+p.2)∧Pr w' q l j)∧aK q w w'
theorem adM (q:Nat) (lit:Bool) (l t:List UInt8) (i:Nat) (w:World) (hE:cu w) (hq:q≠4) (hr:Pr w q l i) (hl:l.length≤100000000) (hi:i≤l.length) (hd:l.drop i=117::t) :
  Calls prog 195 #[bI q,.bool lit] w (B_ q i l w (jk lit (l.drop i))):=by
 obtain ⟨hjl,hget,eZ⟩:=oQ l i 117 t hd;have SK:=aj (pU q l [117] i w hr hl hi aL (by rw [hd];rfl));have HX:=aj fun w h1 h2=>R7 q 4 l (i+1) w h1 (.inl rfl) h2 hl ay;rw [eZ] at HX;have HE:=aj hE;have r_:=aj (show jk lit (l.drop i)=(Tm.dR 4 t).map (fun x=>(x,5)) by rw [hd];rfl);clear hd hget eZ hr hE;cases hx:Tm.dR 4 t with
 | none=>
  rw [hx] at HX;have dZ:Hid (∀ w,cu w→Pr w q l (i+1)→Calls prog 230 #[bI q,.int .i64 4] w fun x w'=>x=.returned (.tuple #[.int .i32 0,.bool false])∧(∃ j,j≤l.length∧((none:Option Nat)≠none→j=i+1+4)∧Pr w' q l j)∧aK q w w'):=HX;have HF:=aj (show jk lit (l.drop i)=none by rw [r_.out,hx];rfl);clear HX r_ hx;go_enter func195,ntmps195;go_wp2_with fail
  refine SK.out.mono ?_;rintro x w2 ⟨rfl,hr2,hb2⟩;have HR2:=aj hr2;have HB2:=aj hb2;clear hr2 hb2;go_wp2_with fail
  refine (dZ.out _ (HE.out.but HB2.out hq) HR2.out).mono ?_;rintro x w3 ⟨rfl,⟨j,hj,_,hr3⟩,hb3⟩;have HR3:=aj hr3;have HB3:=aj hb3;clear hr3 hb3;go_wp2;go_ret2
  exact ⟨by rw [HF.out];rfl,⟨j,hj,(fun p hp=>by rw [HF.out] at hp;cases hp),HR3.out⟩,HB2.out.trans HB3.out⟩
 | some y=>
  rw [hx] at HX;have dZ:Hid (∀ w,cu w→Pr w q l (i+1)→Calls prog 230 #[bI q,.int .i64 4] w fun x w'=>x=.returned (.tuple #[.int .i32 (y:Nat),.bool true])∧(∃ j,j≤l.length∧(some y≠none→j=i+1+4)∧Pr w' q l j)∧aK q w w'):=HX;have HF:=aj (show jk lit (l.drop i)=some (y,5) by rw [r_.out,hx];rfl);clear HX r_ hx;go_enter func195,ntmps195;go_wp2_with fail
  refine SK.out.mono ?_;rintro x w2 ⟨rfl,hr2,hb2⟩;have HR2:=aj hr2;have HB2:=aj hb2;clear hr2 hb2;go_wp2_with fail
  refine (dZ.out _ (HE.out.but HB2.out hq) HR2.out).mono ?_;rintro x w3 ⟨rfl,⟨j,hj,hjj,hr3⟩,hb3⟩;have HR3:=aj hr3;have HB3:=aj hb3;have HJ:=aj (hjj aH);clear hr3 hb3 hjj;go_wp2;go_ret2
  exact ⟨by rw [HF.out];rfl,⟨j,hj,(fun p hp=>by rw [HF.out] at hp;cases hp;have:=HJ.out;show j=i+5;omega),HR3.out⟩,HB2.out.trans HB3.out⟩
theorem adN (q:Nat) (lit:Bool) (l t:List UInt8) (i:Nat) (w:World) (hE:cu w) (hq:q≠4) (hr:Pr w q l i) (hl:l.length≤100000000) (hi:i≤l.length) (hd:l.drop i=85::t) :
  Calls prog 195 #[bI q,.bool lit] w (B_ q i l w (jk lit (l.drop i))):=by
 obtain ⟨hjl,hget,eZ⟩:=oQ l i 85 t hd;have SN:=aj (jD q l [117] i w hr hl hi aL (by rw [hd];simp));have SK:=aj fun w hr=>pU q l [85] i w hr hl hi aL (by rw [hd];rfl);have HX:=aj fun w h1 h2=>R7 q 8 l (i+1) w h1 (.inr rfl) h2 hl ay;rw [eZ] at HX;have HE:=aj hE;have r_:=aj (show jk lit (l.drop i)=(Tm.dR 8 t).map (fun x=>(x,9)) by rw [hd];rfl);clear hd hget eZ hr hE;cases hx:Tm.dR 8 t with
 | none=>
  rw [hx] at HX;have dZ:Hid (∀ w,cu w→Pr w q l (i+1)→Calls prog 230 #[bI q,.int .i64 8] w fun x w'=>x=.returned (.tuple #[.int .i32 0,.bool false])∧(∃ j,j≤l.length∧((none:Option Nat)≠none→j=i+1+8)∧Pr w' q l j)∧aK q w w'):=HX;have HF:=aj (show jk lit (l.drop i)=none by rw [r_.out,hx];rfl);clear HX r_ hx;go_enter func195,ntmps195;go_wp2_with fail
  refine SN.out.mono ?_;rintro x w1 ⟨rfl,hr1,hb1⟩;have HR1:=aj hr1;have HB1:=aj hb1;clear hr1 hb1;go_wp2_with fail
  refine (SK.out _ HR1.out).mono ?_;rintro x w2 ⟨rfl,hr2,hb2⟩;have HR2:=aj hr2;have HB2:=aj (HB1.out.trans hb2);clear hr2 hb2;go_wp2_with fail
  refine (dZ.out _ (HE.out.but HB2.out hq) HR2.out).mono ?_;rintro x w3 ⟨rfl,⟨j,hj,_,hr3⟩,hb3⟩;have HR3:=aj hr3;have HB3:=aj hb3;clear hr3 hb3;go_wp2;go_ret2
  exact ⟨by rw [HF.out];rfl,⟨j,hj,(fun p hp=>by rw [HF.out] at hp;cases hp),HR3.out⟩,HB2.out.trans HB3.out⟩
 | some y=>
  rw [hx] at HX;have dZ:Hid (∀ w,cu w→Pr w q l (i+1)→Calls prog 230 #[bI q,.int .i64 8] w fun x w'=>x=.returned (.tuple #[.int .i32 (y:Nat),.bool true])∧(∃ j,j≤l.length∧(some y≠none→j=i+1+8)∧Pr w' q l j)∧aK q w w'):=HX;have HF:=aj (show jk lit (l.drop i)=some (y,9) by rw [r_.out,hx];rfl);clear HX r_ hx;go_enter func195,ntmps195;go_wp2_with fail
  refine SN.out.mono ?_;rintro x w1 ⟨rfl,hr1,hb1⟩;have HR1:=aj hr1;have HB1:=aj hb1;clear hr1 hb1;go_wp2_with fail
  refine (SK.out _ HR1.out).mono ?_;rintro x w2 ⟨rfl,hr2,hb2⟩;have HR2:=aj hr2;have HB2:=aj (HB1.out.trans hb2);clear hr2 hb2;go_wp2_with fail
  refine (dZ.out _ (HE.out.but HB2.out hq) HR2.out).mono ?_;rintro x w3 ⟨rfl,⟨j,hj,hjj,hr3⟩,hb3⟩;have HR3:=aj hr3;have HB3:=aj hb3;have HJ:=aj (hjj aH);clear hr3 hb3 hjj;go_wp2;go_ret2
  exact ⟨by rw [HF.out];rfl,⟨j,hj,(fun p hp=>by rw [HF.out] at hp;cases hp;have:=HJ.out;show j=i+9;omega),HR3.out⟩,HB2.out.trans HB3.out⟩
theorem R9 (q:Nat) (lit:Bool) (l:List UInt8) (i:Nat) (w:World) (hr:Pr w q l i) (hl:l.length≤100000000) (hi:i≤l.length) (h1:(l.drop i).take 1≠[117]) (h2:(l.drop i).take 1≠[85]) (hno:lit=false∨l.drop i=[]) :
  Calls prog 195 #[bI q,.bool lit] w (B_ q i l w (jk lit (l.drop i))):=by
 have SN:=aj (jD q l [117] i w hr hl hi aL h1);have SK:=aj fun w hr=>jD q l [85] i w hr hl hi aL h2;have HF:=aj (show jk lit (l.drop i)=none by
  rcases hno with rfl | hno
  · cases hd:l.drop i with
    | nil=>rfl
    | cons c t=>rw [hd] at h1 h2;have g1:c≠117:=fun e=>h1 (by rw [e];rfl);have g2:c≠85:=fun e=>h2 (by rw [e];rfl);unfold jk;simp only;rw [if_neg g1,if_neg g2];rfl
  · rw [hno];rfl)
 have hE:lit=false∨(lit=true∧i=l.length):=by rcases hno with h | h;{exact .inl h};{have:=FU l i h;cases lit;{exact .inl rfl};{exact .inr ⟨rfl,ay⟩}}
 clear hr h1 h2 hno;rcases hE with rfl | ⟨rfl,rfl⟩;all_goals
  go_enter func195,ntmps195
  go_wp2_with fail
  refine SN.out.mono ?_
  rintro x w1 ⟨rfl,hr1,hb1⟩
  have HR1:=aj hr1
  have HB1:=aj hb1
  clear hr1 hb1
  go_wp2_with fail
  refine (SK.out _ HR1.out).mono ?_
  rintro x w2 ⟨rfl,hr2,hb2⟩
  have HR2:=aj hr2
  have HB2:=aj (HB1.out.trans hb2)
  obtain ⟨c0,c1,f0,f1⟩:=HR2.out.cells
  clear hr2 hb2
  go_wp2
  go_quiet (fail)
  go_wp2
  go_ret2
  exact ⟨by rw [HF.out];rfl,⟨_,hi,(fun p hp=>by rw [HF.out] at hp;cases hp),HR2.out⟩,HB2.out.trans (aK.drawn q w2 _)⟩
theorem adO (q:Nat) (l t:List UInt8) (c:UInt8) (i:Nat) (w:World) (hr:Pr w q l i) (hl:l.length≤100000000) (hi:i≤l.length) (hd:l.drop i=c::t) (g1:c≠117) (g2:c≠85) :
  Calls prog 195 #[bI q,.bool true] w (B_ q i l w (jk true (l.drop i))):=by
 obtain ⟨hjl,hget,eZ⟩:=oQ l i c t hd;have SN:=aj (jD q l [117] i w hr hl hi aL (by rw [hd];simpa using g1));have SK:=aj fun w hr=>jD q l [85] i w hr hl hi aL (by rw [hd];simpa using g2);have HF:=aj (show jk true (l.drop i)=(Tm.letter c).map (fun d=>(d.toNat,1)) by rw [hd];unfold jk;simp only;rw [if_neg g1,if_neg g2];simp);have PS:=aj fun w=>adz c w;have hcc:=fun q=>nY l i c hget q;have wE:(i:Int)<(l.length:Int):=ay;have hne:((i:Int)==(l.length:Int))=false:=beq_eq_false_iff_ne.2 ay;clear hr hd g1 g2 hget eZ;cases hx:Tm.letter c;all_goals
  rw [hx] at PS HF
  unfold R4 at PS
  simp only at PS
  have HG:=aj HF.out
  clear HF hx
  go_enter func195,ntmps195
  go_wp2_with fail
  refine SN.out.mono ?_
  rintro x w1 ⟨rfl,hr1,hb1⟩
  have HR1:=aj hr1
  have HB1:=aj hb1
  clear hr1 hb1
  go_wp2_with fail
  refine (SK.out _ HR1.out).mono ?_
  rintro x w2 ⟨rfl,hr2,hb2⟩
  have HR2:=aj hr2
  have HB2:=aj (HB1.out.trans hb2)
  obtain ⟨c0,c1,f0,f1⟩:=HR2.out.cells
  clear hr2 hb2
  go_wp2
  go_quiet (fail)
  go_wp2
  go_quiet ((go_at_call 231;exact nX fun W hW=>PS.out W))
  go_wp2
  go_ret2
  refine ⟨by rw [HG.out];rfl,⟨i+1,hjl,(fun p hp=>by rw [HG.out] at hp;cases hp <;> rfl),Pr.to (w:=w2) HR2.out (i+1)⟩,(HB2.out.trans (aK.drawn q w2 _)).trans ((aK.set q _ 1 _).trans (aK.drawn q _ _))⟩
theorem adP (q:Nat) (lit:Bool) (l:List UInt8) (i:Nat) (w:World) (hE:cu w) (hq:q≠4) (hr:Pr w q l i) (hl:l.length≤100000000) (hi:i≤l.length) :
  Calls prog 195 #[bI q,.bool lit] w (B_ q i l w (jk lit (l.drop i))):=by
 by_cases h1:(l.drop i).take 1=[117];{obtain ⟨t,hd⟩:=take_one h1;exact adM q lit l t i w hE hq hr hl hi hd}
 · by_cases h2:(l.drop i).take 1=[85];{obtain ⟨t,hd⟩:=take_one h2;exact adN q lit l t i w hE hq hr hl hi hd}
   · cases lit;{exact R9 q false l i w hr hl hi h1 h2 (.inl rfl)}
     · cases hd:l.drop i with
       | nil=>rw [←hd];exact R9 q true l i w hr hl hi h1 h2 (.inr hd)
       | cons c t=>rw [←hd];exact adO q l t c i w hr hl hi hd (fun e=>h1 (by rw [hd,e];rfl)) (fun e=>h2 (by rw [hd,e];rfl))
end Go.Proofs.YtockbaekcbeenaaGreatDoor
