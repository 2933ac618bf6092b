/-PrEsc2-/
import Derived.Test.YtjaebndajhppgaaGreatDoorMfHd0
import Derived.Test.YtjaebndajhppgaaGreatDoorMfGPr1
import Derived.Test.YtjaebndajhppgaaGreatDoorMfGLn1
import Derived.Test.YtjaebndajhppgaaGreatDoorMfShelf
import Derived.Lib.ConvBytes
import Derived.Deep.RegionWith
set_option linter.unusedVariables false
set_option linter.unusedSimpArgs false
set_option maxRecDepth 100000
set_option maxHeartbeats 4000000
namespace Go.Proofs.YtjaebndajhppgaaGreatDoor
open Go.Proofs.Tryz
open Go.ChangeShapes Go.WideShapes Go.ChangeAt Go.RowKit
theorem adU:∀ k:Fin 256,bits .or .u8 ((k.val:Nat):Int) 32=((k.val ||| 32:Nat):Int):=aL
theorem adV:∀ k:Fin 256,(97≤k.val∧k.val≤102→k.val ||| 32=k.val)∧(65≤k.val∧k.val≤70→k.val ||| 32=k.val+32)∧((k.val<65∨(70<k.val∧k.val<97)∨102<k.val)→(k.val ||| 32<97∨102<k.val ||| 32))∧k.val ||| 32<256:=aL
theorem adW (c:UInt8) (w:World):Calls prog 278 #[.int .u8 (c.toNat:Nat)] w fun e w'=>e=.returned (.int .u8 ((c.toNat ||| 32:Nat):Int))∧w'=w:=by have h:=adU ⟨c.toNat,c.toNat_lt⟩;simp only at h;have H:=aj h;clear h;go_enter func278,ntmps278;go_wp2;go_ret;exact ⟨congrArg (fun z=>Ending.returned (.int .u8 z)) H.out,rfl⟩
def adX (r:Option Nat):Value:=match r with
 | none=>.tuple #[.int .u64 0,.iface 312 (.int .i64 2)]
 | some x=>.tuple #[.int .u64 (x:Nat),.nilIface]
theorem Rz (s:List UInt8) (w:World) (h0:0<s.length) (h8:s.length≤8) :
  Calls prog 271 #[aA s,.int .i64 16,.int .i64 32] w fun e w'=>e=.returned (adX (Tm.dW s.length s 0))∧Below w.heap.size w w':=by
 have hsz:(⟨s.toArray⟩:ByteArray).size=s.length:=by simp [ByteArray.size]
 have hcv:=Lib.run_convert_string_bytes (P:=prog) w 9 32 5 ⟨s.toArray⟩ (u:=.string) underlying9 underlying32 underlying5;have hB:∀ j,j<s.length→(Lib.bytesWorld w 5 ⟨s.toArray⟩).cell? ⟨w.heap.size,j,none⟩=some (.int .u8 (s.getD j 0).toNat):=fun j hj=>Lib.bytesWorld_cell w 5 ⟨s.toArray⟩ j (by rw [hsz];exact hj);have Ey:=aj (show Below w.heap.size w (Lib.bytesWorld w 5 ⟨s.toArray⟩) by exact ⟨rfl,rfl,rfl,by rw [Lib.bytesWorld_size];omega,fun i hi=>Lib.bytesWorld_at_old w 5 _ i hi⟩);rw [hsz] at hcv;obtain ⟨W1,hW1⟩:=aB (Lib.bytesWorld w 5 ⟨s.toArray⟩);rw [←hW1] at hcv hB Ey;have hem:(s==[])=false:=by cases s with
  | nil=>simp at h0
  | cons _ _=>rfl
 obtain ⟨ANS,hA⟩:=aB (Tm.dW s.length s 0);rw [←hA];have HA:=aj (show ANS=Tm.dW (s.length-0) (s.drop 0) 0 by rw [hA];rfl);have hLz:(s.length:Int)≤8:=ak;clear hA hW1;go_enter func271,ntmps271;go_wp2;go_loop [12,13,101] (fun vu vn vi=>∃ (k acc:Nat) (a:Int),vu=.bool false∧vn=.int .u64 a∧vi=.int .i64 k∧k≤s.length∧Hid (a=(acc:Int)∧acc<16 ^ k∧ANS=Tm.dW (s.length-k) (s.drop k) acc))
  (fun _ _ vi=>s.length-(intOf vi).toNat)
 case atStart=>exact ⟨0,0,0,rfl,rfl,rfl,ak,rfl,aL,HA.out⟩
 case round=>
  obtain ⟨k,acc,a,rfl,rfl,rfl,hk,hh⟩:=hrel;obtain ⟨ha,hacc,hdec⟩:=hh.out;clear hh;have a0:0≤a:=ak;by_cases hkn:k<s.length
  · have aiY:acc<268435456:=Nat.lt_of_lt_of_le hacc (Nq k ak);have a1:a<268435456:=ak;have hc:=hB k hkn;obtain ⟨c,hget⟩:∃ c,s[k]?=some c:=⟨_,List.getElem?_eq_getElem hkn⟩;have hgd:s.getD k 0=c:=(by rw [List.getD,hget];rfl);rw [hgd] at hc;have HST:=aj (hdec.trans ((congrArg (fun n=>Tm.dW n (s.drop k) acc) (show s.length-k=s.length-(k+1)+1 by omega)).trans (Nr (s.length-(k+1)) s k acc c hget)));have LOW:=aj fun w=>adW c w;have hc256:c.toNat<256:=c.toNat_lt;obtain ⟨f1,f2,f3,f4⟩:=adV ⟨c.toNat,hc256⟩;simp only at f1 f2 f3 f4;have HP:=aj (fun d (hd:d<16)=>show acc*16+d<16 ^ (k+1) by rw [Nat.pow_succ];omega);obtain ⟨lw,RA⟩:∃ lw,lw=c.toNat ||| 32:=⟨_,rfl⟩;rw [←RA] at f1 f2 f3 f4 LOW;clear hB hget hgd hdec hacc RA;rcases (show (c.toNat<48∨(57<c.toNat∧c.toNat<65)∨(70<c.toNat∧c.toNat<97)∨102<c.toNat)∨(48≤c.toNat∧c.toNat≤57)∨(97≤c.toNat∧c.toNat≤102)∨(65≤c.toNat∧c.toNat≤70) by omega) with h | ⟨h,h'⟩ | ⟨h,h'⟩ | ⟨h,h'⟩
    · have HF:=aj (show ANS=none by rw [HST.out,Nv h]);have hlow:lw<97∨122<lw∨(102<lw∧lw≤122):=(by have:=f3 ak;omega);clear f1 f2 f3 HST HP ha;rcases (show c.toNat<48∨(57<c.toNat∧c.toNat<65)∨(70<c.toNat∧c.toNat<95)∨(c.toNat=95∧70<c.toNat∧c.toNat<97)∨(95<c.toNat∧c.toNat<97)∨102<c.toNat by omega) with h | ⟨h,h'⟩ | ⟨h,h'⟩ | ⟨h,h',h''⟩ | ⟨h,h'⟩ | h;case inr.inr.inr.inl=>
       have b1:((c.toNat:Int)==95)=true:=beq_iff_eq.2 ak;clear h;rcases hlow with g | g | ⟨g,g'⟩;all_goals
        go_wp2_with (go_at_call 278;refine (LOW.out _).mono ?_;rintro e w' ⟨rfl,dS⟩;have hw2:=dS.symm;subst hw2)
        go_ret2
        exact ⟨by rw [HF.out];rfl,Ey.out⟩
      all_goals
       rcases hlow with g | g | ⟨g,g'⟩
       all_goals
        go_wp2_with (go_at_call 278;refine (LOW.out _).mono ?_;rintro e w' ⟨rfl,dS⟩;have hw2:=dS.symm;subst hw2)
        go_ret2
        exact ⟨by rw [HF.out];rfl,Ey.out⟩
    {have HF:Hid (a*16+((c.toNat:Int)-48)=((acc*16+(c.toNat-48):Nat):Int)∧acc*16+(c.toNat-48)<16 ^ (k+1)∧ANS=Tm.dW (s.length-(k+1)) (s.drop (k+1)) (acc*16+(c.toNat-48))):=aj ⟨ak,HP.out _ ak,by rw [HST.out,Ns ⟨h,h'⟩]⟩;clear f1 f2 f3 HST HP ha;go_wp2;refine ⟨⟨k+1,acc*16+(c.toNat-48),a*16+((c.toNat:Int)-48),rfl,(by first | rfl | (congr 1;omega)),(by first | rfl | (congr 1;omega)),ak,HF⟩,by simp [intOf];omega⟩};{have HF:Hid (a*16+((lw:Int)-87)=((acc*16+(c.toNat-87):Nat):Int)∧acc*16+(c.toNat-87)<16 ^ (k+1)∧ANS=Tm.dW (s.length-(k+1)) (s.drop (k+1)) (acc*16+(c.toNat-87))):=aj ⟨by have:=f1 ⟨h,h'⟩;omega,HP.out _ ak,by rw [HST.out,Nt ⟨h,h'⟩]⟩;have g:97≤lw∧lw≤102:=(by have:=f1 ⟨h,h'⟩;omega);obtain ⟨g,g'⟩:=g;clear f1 f2 f3 HST HP ha;(go_wp2_with (go_at_call 278;refine (LOW.out _).mono ?_;rintro e w' ⟨rfl,dS⟩;have hw2:=dS.symm;subst hw2));refine ⟨⟨k+1,acc*16+(c.toNat-87),a*16+((lw:Int)-87),rfl,(by first | rfl | (congr 1;omega)),(by first | rfl | (congr 1;omega)),ak,HF⟩,by simp [intOf];omega⟩};{have HF:Hid (a*16+((lw:Int)-87)=((acc*16+(c.toNat-55):Nat):Int)∧acc*16+(c.toNat-55)<16 ^ (k+1)∧ANS=Tm.dW (s.length-(k+1)) (s.drop (k+1)) (acc*16+(c.toNat-55))):=aj ⟨by have:=f2 ⟨h,h'⟩;omega,HP.out _ ak,by rw [HST.out,Nu ⟨h,h'⟩]⟩;have g:97≤lw∧lw≤102:=(by have:=f2 ⟨h,h'⟩;omega);obtain ⟨g,g'⟩:=g;clear f1 f2 f3 HST HP ha;(go_wp2_with (go_at_call 278;refine (LOW.out _).mono ?_;rintro e w' ⟨rfl,dS⟩;have hw2:=dS.symm;subst hw2));refine ⟨⟨k+1,acc*16+(c.toNat-55),a*16+((lw:Int)-87),rfl,(by first | rfl | (congr 1;omega)),(by first | rfl | (congr 1;omega)),ak,HF⟩,by simp [intOf];omega⟩}
  · obtain rfl:k=s.length:=ak;have HF:=aj (show ANS=some acc by rw [hdec,Nat.sub_self];rfl);subst ha;clear hB hdec hacc;go_wp2;go_ret2
    exact ⟨by rw [HF.out];rfl,Ey.out⟩
def cu (w:World):Prop:=∃ ev,w.cell? ⟨4,0,none⟩=some ev∧(ev=.nilIface∨∃ te pe,ev=.iface te pe)
theorem cu.keep {w w':World} (h:cu w) (hb:Below w.heap.size w w'):cu w':=by obtain ⟨ev,h1,h2⟩:=h;exact ⟨ev,(hb.cell (lt_of_cell h1)).trans h1,h2⟩
theorem cu.but {q:Nat} {w w':World} (h:cu w) (hb:aH q w w') (hq:q≠4):cu w':=by obtain ⟨ev,h1,h2⟩:=h;have hk:=hb.block 4 (lt_of_cell h1) (by simpa using fun e=>hq e.symm);refine ⟨ev,?_,h2⟩;rw [←h1];simp only [World.cell?,hk]
theorem I_:∀ (n:Nat) (s:List UInt8) (x:Nat),n≤s.length→Tm.dW (s.take n).length (s.take n) x=Tm.dW n s x
 | 0,s,x,_=>by simp [Tm.dW]
 | n+1,[],x,h=>by simp at h
 | n+1,c::t,x,h=>by
  simp only [List.length_cons] at h
  rw [List.take_succ_cons,List.length_cons]
  unfold Tm.dW
  cases Tm.jC c with
  | none=>rfl
  | some d=>exact I_ n t _ ak
theorem RF:∀ (n:Nat) (s:List UInt8) (x y:Nat),Tm.dW n s x=some y→y<(x+1)*16 ^ n
 | 0,s,x,y,h=>by
  unfold Tm.dW at h;simp only [Option.some.injEq] at h;omega
 | n+1,[],x,y,h=>by unfold Tm.dW at h;cases h
 | n+1,c::t,x,y,h=>by
  unfold Tm.dW at h
  cases hc:Tm.jC c with
  | none=>rw [hc] at h;cases h
  | some d=>
   rw [hc] at h
   have h2:=RF n t _ y h
   have hd:d<16:=by
    unfold Tm.jC at hc
    split at hc
    · simp only [Option.some.injEq] at hc;omega
    · split at hc
      · simp only [Option.some.injEq] at hc;omega
      · split at hc
        · simp only [Option.some.injEq] at hc;omega
        · cases hc
   rw [Nat.pow_succ,Nat.mul_comm (16 ^ n) 16,←Nat.mul_assoc]
   exact Nat.lt_of_lt_of_le h2 (Nat.mul_le_mul_right _ ak)
theorem adY (s:List UInt8) (x:Nat) (w:World) (h0:0<s.length) (h8:s.length≤8) (hx:Tm.dW s.length s 0=some x) :
  Calls prog 260 #[aA s,.int .i64 16,.int .i64 32] w fun e w'=>e=.returned (.tuple #[.int .u64 (x:Nat),.nilIface])∧Below w.heap.size w w':=by
 have IP:=aj fun w=>Rz s w h0 h8;rw [hx] at IP;have Ja:Hid (∀ w,Calls prog 271 #[aA s,.int .i64 16,.int .i64 32] w fun e w'=>e=.returned (.tuple #[.int .u64 (x:Nat),.nilIface])∧Below w.heap.size w w'):=IP;clear IP;go_enter func260,ntmps260;go_wp2_with fail
 refine (Ja.out _).mono ?_;rintro e w2 ⟨rfl,hb⟩;have HB:=aj hb;clear hb;go_wp2;go_ret2
 exact ⟨rfl,HB.out⟩
theorem adZ (s:List UInt8) (w:World) (hE:cu w) (h0:0<s.length) (h8:s.length≤8) (hx:Tm.dW s.length s 0=none) :
  Calls prog 260 #[aA s,.int .i64 16,.int .i64 32] w fun e w'=>(∃ t a,e=.returned (.tuple #[.int .u64 0,.iface t (.pointer (some a))]))∧Below w.heap.size w w':=by
 have IP:=aj fun w=>Rz s w h0 h8;rw [hx] at IP;have Ja:Hid (∀ w,Calls prog 271 #[aA s,.int .i64 16,.int .i64 32] w fun e w'=>e=.returned (.tuple #[.int .u64 0,.iface 312 (.int .i64 2)])∧Below w.heap.size w w'):=IP;have HE:=aj hE;clear IP hE;go_enter func260,ntmps260;go_wp2_with fail
 refine (Ja.out _).mono ?_;rintro e w2 ⟨rfl,hb⟩;have HB:=aj hb;obtain ⟨ev,k1,k2⟩:=HE.out.keep hb;have TE:=aj fun fn=>Tryz.strconv_toError_syntax fn ⟨s.toArray⟩ 16 32 ev w2 (by simp [ByteArray.size];omega) k1 k2;clear hb k1 k2;go_wp2_with fail
 refine (TE.out _).mono ?_;rintro e w3 ⟨N,rfl,_,_,hb⟩;have HB3:=aj (aJ HB.out hb);clear hb;go_wp2;go_ret2
 exact ⟨⟨_,_,rfl⟩,HB3.out⟩
def Am (r:Option Nat):Value:=match r with
 | some x=>.tuple #[.int .i32 (x:Nat),.bool true]
 | none=>.tuple #[.int .i32 0,.bool false]
theorem ad1 (x:Nat) (hx:x≤1114111) (w:World):Calls prog 261 #[.int .i32 (x:Nat)] w fun e w'=>e=.returned (.bool (decide (¬ (55296≤x∧x≤57343))))∧w'=w:=by
 have h:=Tryz.utf8_ValidRune (x:Int) w;have hv:Lib.validRune (x:Int)=decide (¬ (55296≤x∧x≤57343)):=by unfold Lib.validRune;rw [Bool.eq_iff_iff];simp only [decide_eq_true_eq];omega
 rw [hv] at h;exact h
theorem ad2 (q n:Nat) (l:List UInt8) (i:Nat) (w:World) (hE:cu w) (hn:n=4∨n=8) (hr:Pr w q l i) (hl:l.length≤100000000) (hi:i≤l.length) (hs:l.length<i+n) :
  Calls prog 251 #[bB q,.int .i64 (n:Nat)] w fun x w'=>x=.returned (Am (Tm.bZ n (l.drop i)))∧(∃ j,j≤l.length∧(Tm.bZ n (l.drop i)≠none→j=i+n)∧Pr w' q l j)∧aH q w w':=by
 obtain ⟨c0,c1,f0,f1⟩:=hr.cells;have HR:=aj hr;have HE:=aj hE;have I9:(i:Int)≤(l.length:Int):=ak;have Ao:n≤8:=ak;have hn0:0<n:=ak;clear hr hE;have HN:=aj (show Tm.bZ n (l.drop i)=none by unfold Tm.bZ;rw [Cn n _ 0 (by rw [List.length_drop];omega)]);have hz:decide ((l.length:Int)-(i:Int)<(n:Int))=true:=decide_eq_true ak;clear hn hs;go_enter func251,ntmps251;go_wp2;go_quiet (fail)
 go_wp2;go_ret2
 exact ⟨by rw [HN.out];rfl,⟨i,hi,fun h=>absurd HN.out h,HR.out⟩,aH.drawn q w _⟩
theorem ad3 (q n:Nat) (l:List UInt8) (i:Nat) (w:World) (hE:cu w) (hn:n=4∨n=8) (hr:Pr w q l i) (hl:l.length≤100000000) (hi:i≤l.length) (hs:¬ l.length<i+n) (hx:Tm.dW n (l.drop i) 0=none) :
  Calls prog 251 #[bB q,.int .i64 (n:Nat)] w fun x w'=>x=.returned (Am (Tm.bZ n (l.drop i)))∧(∃ j,j≤l.length∧(Tm.bZ n (l.drop i)≠none→j=i+n)∧Pr w' q l j)∧aH q w w':=by
 obtain ⟨c0,c1,f0,f1⟩:=hr.cells;have HR:=aj hr;have HE:=aj hE;have I9:(i:Int)≤(l.length:Int):=ak;have Ao:n≤8:=ak;have hn0:0<n:=ak;clear hr hE;have hdl:n≤(l.drop i).length:=by rw [List.length_drop];omega
 have htl:((l.drop i).take n).length=n:=by rw [List.length_take];omega
 obtain ⟨m,hm⟩:=aB (i+n);have hex:(⟨l.toArray⟩:ByteArray).extract i m=⟨((l.drop i).take n).toArray⟩:=by rw [hm,oJ];congr 3;omega
 have hw:IntKind.i64.wrap ((i:Int)+(n:Int))=(m:Int):=by rw [IntKind.wrap_i64];omega
 have him:i≤m:=ak;have hml:m≤l.length:=ak;have hmz:(i:Int)≤(m:Int):=ak;have ad4:(m:Int)≤(l.length:Int):=ak;have hz:decide ((l.length:Int)-(i:Int)<(n:Int))=false:=decide_eq_false ak;have HM:=aj hm;have HN:=aj (show Tm.bZ n (l.drop i)=none by unfold Tm.bZ;rw [hx]);have SP:=aj fun w h=>adZ ((l.drop i).take n) w h ak ak (by rw [htl,←hx,←I_ n _ 0 hdl,htl]);clear hn hs hx hdl htl hm;go_enter func251,ntmps251;go_wp2;go_quiet (fail)
 go_wp2;go_region_with ((go_at_call 260;refine (SP.out _ (show cu (w.drewN (nq+1)) from HE.out)).mono ?_;rintro e w2 ⟨⟨t,a,rfl⟩,hb⟩;have HR2:Hid (Pr w2 q l i):=aj (by refine Pr.keep ?_ hb;exact HR.out);have gM:=HR2.out.cells;obtain ⟨d0,d1,g0,g1⟩:=gM))
 all_goals
  go_wp2
  go_ret2
  exact ⟨by rw [HN.out];rfl,⟨m,hml,fun h=>absurd HN.out h,HR2.out.to _⟩,(aH.below (aJ (bn (Below.refl w.heap.size w) _) hb)).trans (aH.set q _ 1 _)⟩
theorem ad5 (q n:Nat) (l:List UInt8) (i:Nat) (w:World) (hE:cu w) (hn:n=4∨n=8) (hr:Pr w q l i) (hl:l.length≤100000000) (hi:i≤l.length) (x:Nat) (hs:¬ l.length<i+n) (hx:Tm.dW n (l.drop i) 0=some x) :
  Calls prog 251 #[bB q,.int .i64 (n:Nat)] w fun x w'=>x=.returned (Am (Tm.bZ n (l.drop i)))∧(∃ j,j≤l.length∧(Tm.bZ n (l.drop i)≠none→j=i+n)∧Pr w' q l j)∧aH q w w':=by
 obtain ⟨c0,c1,f0,f1⟩:=hr.cells;have HR:=aj hr;have HE:=aj hE;have I9:(i:Int)≤(l.length:Int):=ak;have Ao:n≤8:=ak;have hn0:0<n:=ak;clear hr hE;have hdl:n≤(l.drop i).length:=by rw [List.length_drop];omega
 have htl:((l.drop i).take n).length=n:=by rw [List.length_take];omega
 obtain ⟨m,hm⟩:=aB (i+n);have hex:(⟨l.toArray⟩:ByteArray).extract i m=⟨((l.drop i).take n).toArray⟩:=by rw [hm,oJ];congr 3;omega
 have hw:IntKind.i64.wrap ((i:Int)+(n:Int))=(m:Int):=by rw [IntKind.wrap_i64];omega
 have him:i≤m:=ak;have hml:m≤l.length:=ak;have hmz:(i:Int)≤(m:Int):=ak;have ad4:(m:Int)≤(l.length:Int):=ak;have hz:decide ((l.length:Int)-(i:Int)<(n:Int))=false:=decide_eq_false ak;have HM:=aj hm;have hxl:=RF n _ 0 x hx;have hx32:x<4294967296:=by have h1:=Nat.pow_le_pow_right (show 0<16 by omega) Ao;have h2:(16:Nat) ^ 8=4294967296:=aL;omega
 have SP:=aj fun w=>adY ((l.drop i).take n) x w ak ak (by rw [htl,←hx,←I_ n _ 0 hdl,htl]);have HX:=aj hx;have VR:=aj fun h w=>ad1 x h w;clear hn hs hx hdl htl hm hxl;rcases (show 1114111<x∨(x≤1114111∧(55296≤x∧x≤57343))∨(x≤1114111∧¬ (55296≤x∧x≤57343)) by omega) with h | ⟨h,h'⟩ | ⟨h,h'⟩
 · have HN:=aj (show Tm.bZ n (l.drop i)=none by unfold Tm.bZ;rw [HX.out];simp only;rw [if_pos (.inl h)]);go_enter func251,ntmps251;go_wp2;(go_quiet (fail));go_wp2;go_region_with ((go_at_call 260;refine (SP.out (w.drewN (nq+1))).mono ?_;rintro e w2 ⟨rfl,hb⟩;have HR2:Hid (Pr w2 q l i):=aj (by refine Pr.keep ?_ hb;exact HR.out);have gM:=HR2.out.cells;obtain ⟨d0,d1,g0,g1⟩:=gM))
   all_goals
    go_wp2
    go_ret2
    exact ⟨by rw [HN.out];rfl,⟨m,hml,fun h=>absurd HN.out h,HR2.out.to _⟩,(aH.below (aJ (bn (Below.refl w.heap.size w) _) hb)).trans (aH.set q _ 1 _)⟩
 · have HN:=aj (show Tm.bZ n (l.drop i)=none by unfold Tm.bZ;rw [HX.out];simp only;rw [if_pos (.inr h')]);have Ap:=aj (VR.out h);rw [decide_eq_false ak] at Ap;clear h';go_enter func251,ntmps251;go_wp2;(go_quiet (fail));go_wp2;go_region_with ((go_at_call 260;refine (SP.out (w.drewN (nq+1))).mono ?_;rintro e w2 ⟨rfl,hb⟩;have HR2:Hid (Pr w2 q l i):=aj (by refine Pr.keep ?_ hb;exact HR.out);have gM:=HR2.out.cells;obtain ⟨d0,d1,g0,g1⟩:=gM))
   all_goals
    go_wp2_with (go_at_call 261;refine (Ap.out _).mono ?_;rintro e w' ⟨rfl,dS⟩;have hw2:=dS.symm;subst hw2)
    go_ret2
    exact ⟨by rw [HN.out];rfl,⟨m,hml,fun h=>absurd HN.out h,HR2.out.to _⟩,(aH.below (aJ (bn (Below.refl w.heap.size w) _) hb)).trans (aH.set q _ 1 _)⟩
 · have HN:=aj (show Tm.bZ n (l.drop i)=some x by unfold Tm.bZ;rw [HX.out];simp only;rw [if_neg ak]);have Ap:=aj (VR.out h);rw [decide_eq_true ak] at Ap;clear h';go_enter func251,ntmps251;go_wp2;(go_quiet (fail));go_wp2;go_region_with ((go_at_call 260;refine (SP.out (w.drewN (nq+1))).mono ?_;rintro e w2 ⟨rfl,hb⟩;have HR2:Hid (Pr w2 q l i):=aj (by refine Pr.keep ?_ hb;exact HR.out);have gM:=HR2.out.cells;obtain ⟨d0,d1,g0,g1⟩:=gM))
   all_goals
    go_wp2_with (go_at_call 261;refine (Ap.out _).mono ?_;rintro e w' ⟨rfl,dS⟩;have hw2:=dS.symm;subst hw2)
    go_ret2
    exact ⟨by rw [HN.out];rfl,⟨m,hml,fun _=>HM.out,HR2.out.to _⟩,(aH.below (aJ (bn (Below.refl w.heap.size w) _) hb)).trans (aH.set q _ 1 _)⟩
theorem RG (q n:Nat) (l:List UInt8) (i:Nat) (w:World) (hE:cu w) (hn:n=4∨n=8) (hr:Pr w q l i) (hl:l.length≤100000000) (hi:i≤l.length) :
  Calls prog 251 #[bB q,.int .i64 (n:Nat)] w fun x w'=>x=.returned (Am (Tm.bZ n (l.drop i)))∧(∃ j,j≤l.length∧(Tm.bZ n (l.drop i)≠none→j=i+n)∧Pr w' q l j)∧aH q w w':=by
 by_cases hs:l.length<i+n;{exact ad2 q n l i w hE hn hr hl hi hs}
 · cases hx:Tm.dW n (l.drop i) 0 with
   | none=>exact ad3 q n l i w hE hn hr hl hi hs hx
   | some x=>exact ad5 q n l i w hE hn hr hl hi x hs hx
def iG (lit:Bool) (s:List UInt8):Option (Nat×Nat):=match s with
 | []=>none
 | c::t=>if c=117 then (Tm.bZ 4 t).map (fun x=>(x,5)) else if c=85 then (Tm.bZ 8 t).map (fun x=>(x,9)) else if lit then (Tm.letter c).map (fun d=>(d.toNat,1)) else none
theorem RH {c d:UInt8} (h:Tm.letter c=some d):d.toNat<128:=by unfold Tm.letter at h;repeat (first | (split at h;· (simp only [Option.some.injEq] at h;subst h;decide)) | cases h)
theorem ad6:∀ k:Fin 128,Tm.fZ k.val=[UInt8.ofNat k.val]:=aL
theorem Jb (lit:Bool) (s:List UInt8):Tm.iy lit s=(iG lit s).map fun p=>(Tm.fZ p.1,p.2):=by
 cases s with
 | nil=>rfl
 | cons c t=>
  have e0:Tm.iy lit (c::t)=if c=117 then (Tm.bZ 4 t).map (fun x=>(Tm.fZ x,5)) else if c=85 then (Tm.bZ 8 t).map (fun x=>(Tm.fZ x,9)) else if lit then (Tm.letter c).map (fun d=>([d],1)) else none:=rfl
  rw [e0];unfold iG;simp only;split;{rw [Option.map_map];rfl}
  · split;{rw [Option.map_map];rfl}
    · split
      · cases h:Tm.letter c with
        | none=>rfl
        | some d=>have h2:=ad6 ⟨d.toNat,RH h⟩;simp only at h2;simp only [Option.map_some];rw [h2,UInt8.ofNat_toNat]
      {rfl}
theorem og (q:Nat) (l p:List UInt8) (i:Nat) (w:World) (hr:Pr w q l i) (hl:l.length≤100000000) (hi:i≤l.length) (hp:p.length≤1000) (h:(l.drop i).take p.length=p) :
  Calls prog 174 #[bB q,aA p] w fun x w'=>x=.returned (.bool true)∧Pr w' q l (i+p.length)∧aH q w w':=by have:=Rv q l p i w hr hl hi hp;rw [decide_eq_true h,if_pos h] at this;exact this
theorem iK (q:Nat) (l p:List UInt8) (i:Nat) (w:World) (hr:Pr w q l i) (hl:l.length≤100000000) (hi:i≤l.length) (hp:p.length≤1000) (h:(l.drop i).take p.length≠p) :
  Calls prog 174 #[bB q,aA p] w fun x w'=>x=.returned (.bool false)∧Pr w' q l i∧aH q w w':=by have:=Rv q l p i w hr hl hi hp;rw [decide_eq_false h,if_neg h] at this;exact this
theorem take_one {s:List UInt8} {c:UInt8} (h:s.take 1=[c]):∃ t,s=c::t:=by
 cases s with
 | nil=>cases h
 | cons d t=>simp only [List.take_succ_cons,List.take_zero,List.cons.injEq,and_true] at h;exact ⟨t,by rw [h]⟩
def Aq (q i:Nat) (l:List UInt8) (w:World) (r:Option (Nat×Nat)) (x:Ending) (w':World):Prop:=
 x=.returned (Am (r.map (·.1)))∧(∃ j,j≤l.length∧(∀ p,r=some p→j=i+p.2)∧Pr w' q l j)∧aH q w w'
theorem ad7 (q:Nat) (lit:Bool) (l t:List UInt8) (i:Nat) (w:World) (hE:cu w) (hq:q≠4) (hr:Pr w q l i) (hl:l.length≤100000000) (hi:i≤l.length) (hd:l.drop i=117::t) :
  Calls prog 234 #[bB q,.bool lit] w (Aq q i l w (iG lit (l.drop i))):=by
 obtain ⟨hjl,hget,d9⟩:=nE l i 117 t hd;have SK:=aj (og q l [117] i w hr hl hi aL (by rw [hd];rfl));have HX:=aj fun w h1 h2=>RG q 4 l (i+1) w h1 (.inl rfl) h2 hl ak;rw [d9] at HX;have HE:=aj hE;have qP:=aj (show iG lit (l.drop i)=(Tm.bZ 4 t).map (fun x=>(x,5)) by rw [hd];rfl);clear hd hget d9 hr hE;cases hx:Tm.bZ 4 t with
 | none=>
  rw [hx] at HX;have jE:Hid (∀ w,cu w→Pr w q l (i+1)→Calls prog 251 #[bB q,.int .i64 4] w fun x w'=>x=.returned (.tuple #[.int .i32 0,.bool false])∧(∃ j,j≤l.length∧((none:Option Nat)≠none→j=i+1+4)∧Pr w' q l j)∧aH q w w'):=HX;have HF:=aj (show iG lit (l.drop i)=none by rw [qP.out,hx];rfl);clear HX qP hx;go_enter func234,ntmps234;go_wp2_with fail
  refine SK.out.mono ?_;rintro x w2 ⟨rfl,hr2,hb2⟩;have HR2:=aj hr2;have HB2:=aj hb2;clear hr2 hb2;go_wp2_with fail
  refine (jE.out _ (HE.out.but HB2.out hq) HR2.out).mono ?_;rintro x w3 ⟨rfl,⟨j,hj,_,hr3⟩,hb3⟩;have HR3:=aj hr3;have HB3:=aj hb3;clear hr3 hb3;go_wp2;go_ret2
  exact ⟨by rw [HF.out];rfl,⟨j,hj,(fun p hp=>by rw [HF.out] at hp;cases hp),HR3.out⟩,HB2.out.trans HB3.out⟩
 | some y=>
  rw [hx] at HX;have jE:Hid (∀ w,cu w→Pr w q l (i+1)→Calls prog 251 #[bB q,.int .i64 4] w fun x w'=>x=.returned (.tuple #[.int .i32 (y:Nat),.bool true])∧(∃ j,j≤l.length∧(some y≠none→j=i+1+4)∧Pr w' q l j)∧aH q w w'):=HX;have HF:=aj (show iG lit (l.drop i)=some (y,5) by rw [qP.out,hx];rfl);clear HX qP hx;go_enter func234,ntmps234;go_wp2_with fail
  refine SK.out.mono ?_;rintro x w2 ⟨rfl,hr2,hb2⟩;have HR2:=aj hr2;have HB2:=aj hb2;clear hr2 hb2;go_wp2_with fail
  refine (jE.out _ (HE.out.but HB2.out hq) HR2.out).mono ?_;rintro x w3 ⟨rfl,⟨j,hj,hjj,hr3⟩,hb3⟩;have HR3:=aj hr3;have HB3:=aj hb3;have HJ:=aj (hjj aI);clear hr3 hb3 hjj;go_wp2;go_ret2
  exact ⟨by rw [HF.out];rfl,⟨j,hj,(fun p hp=>by rw [HF.out] at hp;cases hp;have:=HJ.out;show j=i+5;omega),HR3.out⟩,HB2.out.trans HB3.out⟩
theorem ad8 (q:Nat) (lit:Bool) (l t:List UInt8) (i:Nat) (w:World) (hE:cu w) (hq:q≠4) (hr:Pr w q l i) (hl:l.length≤100000000) (hi:i≤l.length) (hd:l.drop i=85::t) :
  Calls prog 234 #[bB q,.bool lit] w (Aq q i l w (iG lit (l.drop i))):=by
 obtain ⟨hjl,hget,d9⟩:=nE l i 85 t hd;have SN:=aj (iK q l [117] i w hr hl hi aL (by rw [hd];simp));have SK:=aj fun w hr=>og q l [85] i w hr hl hi aL (by rw [hd];rfl);have HX:=aj fun w h1 h2=>RG q 8 l (i+1) w h1 (.inr rfl) h2 hl ak;rw [d9] at HX;have HE:=aj hE;have qP:=aj (show iG lit (l.drop i)=(Tm.bZ 8 t).map (fun x=>(x,9)) by rw [hd];rfl);clear hd hget d9 hr hE;cases hx:Tm.bZ 8 t with
 | none=>
  rw [hx] at HX;have jE:Hid (∀ w,cu w→Pr w q l (i+1)→Calls prog 251 #[bB q,.int .i64 8] w fun x w'=>x=.returned (.tuple #[.int .i32 0,.bool false])∧(∃ j,j≤l.length∧((none:Option Nat)≠none→j=i+1+8)∧Pr w' q l j)∧aH q w w'):=HX;have HF:=aj (show iG lit (l.drop i)=none by rw [qP.out,hx];rfl);clear HX qP hx;go_enter func234,ntmps234;go_wp2_with fail
  refine SN.out.mono ?_;rintro x w1 ⟨rfl,hr1,hb1⟩;have HR1:=aj hr1;have HB1:=aj hb1;clear hr1 hb1;go_wp2_with fail
  refine (SK.out _ HR1.out).mono ?_;rintro x w2 ⟨rfl,hr2,hb2⟩;have HR2:=aj hr2;have HB2:=aj (HB1.out.trans hb2);clear hr2 hb2;go_wp2_with fail
  refine (jE.out _ (HE.out.but HB2.out hq) HR2.out).mono ?_;rintro x w3 ⟨rfl,⟨j,hj,_,hr3⟩,hb3⟩;have HR3:=aj hr3;have HB3:=aj hb3;clear hr3 hb3;go_wp2;go_ret2
  exact ⟨by rw [HF.out];rfl,⟨j,hj,(fun p hp=>by rw [HF.out] at hp;cases hp),HR3.out⟩,HB2.out.trans HB3.out⟩
 | some y=>
  rw [hx] at HX;have jE:Hid (∀ w,cu w→Pr w q l (i+1)→Calls prog 251 #[bB q,.int .i64 8] w fun x w'=>x=.returned (.tuple #[.int .i32 (y:Nat),.bool true])∧(∃ j,j≤l.length∧(some y≠none→j=i+1+8)∧Pr w' q l j)∧aH q w w'):=HX;have HF:=aj (show iG lit (l.drop i)=some (y,9) by rw [qP.out,hx];rfl);clear HX qP hx;go_enter func234,ntmps234;go_wp2_with fail
  refine SN.out.mono ?_;rintro x w1 ⟨rfl,hr1,hb1⟩;have HR1:=aj hr1;have HB1:=aj hb1;clear hr1 hb1;go_wp2_with fail
  refine (SK.out _ HR1.out).mono ?_;rintro x w2 ⟨rfl,hr2,hb2⟩;have HR2:=aj hr2;have HB2:=aj (HB1.out.trans hb2);clear hr2 hb2;go_wp2_with fail
  refine (jE.out _ (HE.out.but HB2.out hq) HR2.out).mono ?_;rintro x w3 ⟨rfl,⟨j,hj,hjj,hr3⟩,hb3⟩;have HR3:=aj hr3;have HB3:=aj hb3;have HJ:=aj (hjj aI);clear hr3 hb3 hjj;go_wp2;go_ret2
  exact ⟨by rw [HF.out];rfl,⟨j,hj,(fun p hp=>by rw [HF.out] at hp;cases hp;have:=HJ.out;show j=i+9;omega),HR3.out⟩,HB2.out.trans HB3.out⟩
theorem RJ (q:Nat) (lit:Bool) (l:List UInt8) (i:Nat) (w:World) (hr:Pr w q l i) (hl:l.length≤100000000) (hi:i≤l.length) (h1:(l.drop i).take 1≠[117]) (h2:(l.drop i).take 1≠[85]) (hno:lit=false∨l.drop i=[]) :
  Calls prog 234 #[bB q,.bool lit] w (Aq q i l w (iG lit (l.drop i))):=by
 have SN:=aj (iK q l [117] i w hr hl hi aL h1);have SK:=aj fun w hr=>iK q l [85] i w hr hl hi aL h2;have HF:=aj (show iG lit (l.drop i)=none by
  rcases hno with rfl | hno
  · cases hd:l.drop i with
    | nil=>rfl
    | cons c t=>rw [hd] at h1 h2;have g1:c≠117:=fun e=>h1 (by rw [e];rfl);have g2:c≠85:=fun e=>h2 (by rw [e];rfl);unfold iG;simp only;rw [if_neg g1,if_neg g2];rfl
  · rw [hno];rfl)
 have hE:lit=false∨(lit=true∧i=l.length):=by rcases hno with h | h;{exact .inl h};{have:=Ew l i h;cases lit;{exact .inl rfl};{exact .inr ⟨rfl,ak⟩}}
 clear hr h1 h2 hno;rcases hE with rfl | ⟨rfl,rfl⟩;all_goals
  go_enter func234,ntmps234
  go_wp2_with fail
  refine SN.out.mono ?_
  rintro x w1 ⟨rfl,hr1,hb1⟩
  have HR1:=aj hr1
  have HB1:=aj hb1
  clear hr1 hb1
  go_wp2_with fail
  refine (SK.out _ HR1.out).mono ?_
  rintro x w2 ⟨rfl,hr2,hb2⟩
  have HR2:=aj hr2
  have HB2:=aj (HB1.out.trans hb2)
  obtain ⟨c0,c1,f0,f1⟩:=HR2.out.cells
  clear hr2 hb2
  go_wp2
  go_quiet (fail)
  go_wp2
  go_ret2
  exact ⟨by rw [HF.out];rfl,⟨_,hi,(fun p hp=>by rw [HF.out] at hp;cases hp),HR2.out⟩,HB2.out.trans (aH.drawn q w2 _)⟩
theorem ad9 (q:Nat) (l t:List UInt8) (c:UInt8) (i:Nat) (w:World) (hr:Pr w q l i) (hl:l.length≤100000000) (hi:i≤l.length) (hd:l.drop i=c::t) (g1:c≠117) (g2:c≠85) :
  Calls prog 234 #[bB q,.bool true] w (Aq q i l w (iG true (l.drop i))):=by
 obtain ⟨hjl,hget,d9⟩:=nE l i c t hd;have SN:=aj (iK q l [117] i w hr hl hi aL (by rw [hd];simpa using g1));have SK:=aj fun w hr=>iK q l [85] i w hr hl hi aL (by rw [hd];simpa using g2);have HF:=aj (show iG true (l.drop i)=(Tm.letter c).map (fun d=>(d.toNat,1)) by rw [hd];unfold iG;simp only;rw [if_neg g1,if_neg g2];simp);have PS:=aj fun w=>adT c w;have hcc:=fun q=>fH l i c hget q;have uR:(i:Int)<(l.length:Int):=ak;have hne:((i:Int)==(l.length:Int))=false:=beq_eq_false_iff_ne.2 ak;clear hr hd g1 g2 hget d9;cases hx:Tm.letter c;all_goals
  rw [hx] at PS HF
  unfold Ry at PS
  simp only at PS
  have HG:=aj HF.out
  clear HF hx
  go_enter func234,ntmps234
  go_wp2_with fail
  refine SN.out.mono ?_
  rintro x w1 ⟨rfl,hr1,hb1⟩
  have HR1:=aj hr1
  have HB1:=aj hb1
  clear hr1 hb1
  go_wp2_with fail
  refine (SK.out _ HR1.out).mono ?_
  rintro x w2 ⟨rfl,hr2,hb2⟩
  have HR2:=aj hr2
  have HB2:=aj (HB1.out.trans hb2)
  obtain ⟨c0,c1,f0,f1⟩:=HR2.out.cells
  clear hr2 hb2
  go_wp2
  go_quiet (fail)
  go_wp2
  go_quiet ((go_at_call 252;exact mO fun W hW=>PS.out W))
  go_wp2
  go_ret2
  refine ⟨by rw [HG.out];rfl,⟨i+1,hjl,(fun p hp=>by rw [HG.out] at hp;cases hp <;> rfl),Pr.to (w:=w2) HR2.out (i+1)⟩,(HB2.out.trans (aH.drawn q w2 _)).trans ((aH.set q _ 1 _).trans (aH.drawn q _ _))⟩
theorem ad_ (q:Nat) (lit:Bool) (l:List UInt8) (i:Nat) (w:World) (hE:cu w) (hq:q≠4) (hr:Pr w q l i) (hl:l.length≤100000000) (hi:i≤l.length) :
  Calls prog 234 #[bB q,.bool lit] w (Aq q i l w (iG lit (l.drop i))):=by
 by_cases h1:(l.drop i).take 1=[117];{obtain ⟨t,hd⟩:=take_one h1;exact ad7 q lit l t i w hE hq hr hl hi hd}
 · by_cases h2:(l.drop i).take 1=[85];{obtain ⟨t,hd⟩:=take_one h2;exact ad8 q lit l t i w hE hq hr hl hi hd}
   · cases lit;{exact RJ q false l i w hr hl hi h1 h2 (.inl rfl)}
     · cases hd:l.drop i with
       | nil=>rw [←hd];exact RJ q true l i w hr hl hi h1 h2 (.inr hd)
       | cons c t=>rw [←hd];exact ad9 q l t c i w hr hl hi hd (fun e=>h1 (by rw [hd,e];rfl)) (fun e=>h2 (by rw [hd,e];rfl))
end Go.Proofs.YtjaebndajhppgaaGreatDoor
