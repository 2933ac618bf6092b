/-GHx-/
import Derived.Test.YtjaebndajhppgaaGreatDoorMlHd0
import Derived.Test.YtjaebndajhppgaaGreatDoorMlGPr1
import Derived.Test.YtjaebndajhppgaaGreatDoorMlGLn1
import Derived.Test.YtjaebndajhppgaaGreatDoorMlShelf
import Derived.Lib.ConvBytes
import Derived.Deep.RegionWith
set_option linter.unusedVariables false
set_option linter.unusedSimpArgs false
set_option maxRecDepth 100000
set_option maxHeartbeats 4000000
namespace Go.Proofs.YtjaebndajhppgaaGreatDoor
open Go.Proofs.Tryz
open Go.ChangeShapes Go.WideShapes Go.ChangeAt Go.RowKit
theorem Z8:∀ k:Fin 256,bits .or .u8 ((k.val:Nat):Int) 32=((k.val ||| 32:Nat):Int):=aH
theorem Z9:∀ k:Fin 256,(97≤k.val∧k.val≤102→k.val ||| 32=k.val)∧(65≤k.val∧k.val≤70→k.val ||| 32=k.val+32)∧((k.val<65∨(70<k.val∧k.val<97)∨102<k.val)→(k.val ||| 32<97∨102<k.val ||| 32))∧k.val ||| 32<256:=aH
theorem Z_ (c:UInt8) (w:World):Calls prog 278 #[.int .u8 (c.toNat:Nat)] w fun e w'=>e=.returned (.int .u8 ((c.toNat ||| 32:Nat):Int))∧w'=w:=by have h:=Z8 ⟨c.toNat,c.toNat_lt⟩;simp only at h;have H:=hid h;clear h;go_enter func278,ntmps278;go_wp2;go_ret;exact ⟨congrArg (fun z=>Ending.returned (.int .u8 z)) H.out,rfl⟩
def aac (r:Option Nat):Value:=match r with
 | none=>.tuple #[.int .u64 0,.iface 312 (.int .i64 2)]
 | some x=>.tuple #[.int .u64 (x:Nat),.nilIface]
theorem Nw (s:List UInt8) (w:World) (h0:0<s.length) (h8:s.length≤8) :
  Calls prog 271 #[str s,.int .i64 16,.int .i64 32] w fun e w'=>e=.returned (aac (Tm.eH s.length s 0))∧Below w.heap.size w w':=by
 have hsz:(⟨s.toArray⟩:ByteArray).size=s.length:=by simp [ByteArray.size]
 have hcv:=Lib.run_convert_string_bytes (P:=prog) w 9 32 5 ⟨s.toArray⟩ (u:=.string) underlying9 underlying32 underlying5;have hB:∀ j,j<s.length→(Lib.bytesWorld w 5 ⟨s.toArray⟩).cell? ⟨w.heap.size,j,none⟩=some (.int .u8 (s.getD j 0).toNat):=fun j hj=>Lib.bytesWorld_cell w 5 ⟨s.toArray⟩ j (by rw [hsz];exact hj);have BJ:=hid (show Below w.heap.size w (Lib.bytesWorld w 5 ⟨s.toArray⟩) by exact ⟨rfl,rfl,rfl,by rw [Lib.bytesWorld_size];omega,fun i hi=>Lib.bytesWorld_at_old w 5 _ i hi⟩);rw [hsz] at hcv;obtain ⟨W1,hW1⟩:=aA (Lib.bytesWorld w 5 ⟨s.toArray⟩);rw [←hW1] at hcv hB BJ;have hem:(s==[])=false:=by cases s with
  | nil=>simp at h0
  | cons _ _=>rfl
 obtain ⟨ANS,hA⟩:=aA (Tm.eH s.length s 0);rw [←hA];have HA:=hid (show ANS=Tm.eH (s.length-0) (s.drop 0) 0 by rw [hA];rfl);have hLz:(s.length:Int)≤8:=aj;clear hA hW1;go_enter func271,ntmps271;go_wp2;go_loop [12,13,101] (fun vu vn vi=>∃ (k acc:Nat) (a:Int),vu=.bool false∧vn=.int .u64 a∧vi=.int .i64 k∧k≤s.length∧Hid (a=(acc:Int)∧acc<16 ^ k∧ANS=Tm.eH (s.length-k) (s.drop k) acc))
  (fun _ _ vi=>s.length-(intOf vi).toNat)
 case atStart=>exact ⟨0,0,0,rfl,rfl,rfl,aj,rfl,aH,HA.out⟩
 case round=>
  obtain ⟨k,acc,a,rfl,rfl,rfl,hk,hh⟩:=hrel;obtain ⟨ha,hacc,hdec⟩:=hh.out;clear hh;have a0:0≤a:=aj;by_cases hkn:k<s.length
  · have aej:acc<268435456:=Nat.lt_of_lt_of_le hacc (Js k aj);have a1:a<268435456:=aj;have hc:=hB k hkn;obtain ⟨c,hget⟩:∃ c,s[k]?=some c:=⟨_,List.getElem?_eq_getElem hkn⟩;have hgd:s.getD k 0=c:=(by rw [List.getD,hget];rfl);rw [hgd] at hc;have HST:=hid (hdec.trans ((congrArg (fun n=>Tm.eH n (s.drop k) acc) (show s.length-k=s.length-(k+1)+1 by omega)).trans (Jt (s.length-(k+1)) s k acc c hget)));have LOW:=hid fun w=>Z_ c w;have hc256:c.toNat<256:=c.toNat_lt;obtain ⟨f1,f2,f3,f4⟩:=Z9 ⟨c.toNat,hc256⟩;simp only at f1 f2 f3 f4;have HP:=hid (fun d (hd:d<16)=>show acc*16+d<16 ^ (k+1) by rw [Nat.pow_succ];omega);obtain ⟨lw,Ny⟩:∃ lw,lw=c.toNat ||| 32:=⟨_,rfl⟩;rw [←Ny] at f1 f2 f3 f4 LOW;clear hB hget hgd hdec hacc Ny;rcases (show (c.toNat<48∨(57<c.toNat∧c.toNat<65)∨(70<c.toNat∧c.toNat<97)∨102<c.toNat)∨(48≤c.toNat∧c.toNat≤57)∨(97≤c.toNat∧c.toNat≤102)∨(65≤c.toNat∧c.toNat≤70) by omega) with h | ⟨h,h'⟩ | ⟨h,h'⟩ | ⟨h,h'⟩
    · have HF:=hid (show ANS=none by rw [HST.out,Jy h]);have hlow:lw<97∨122<lw∨(102<lw∧lw≤122):=(by have:=f3 aj;omega);clear f1 f2 f3 HST HP ha;rcases (show c.toNat<48∨(57<c.toNat∧c.toNat<65)∨(70<c.toNat∧c.toNat<95)∨(c.toNat=95∧70<c.toNat∧c.toNat<97)∨(95<c.toNat∧c.toNat<97)∨102<c.toNat by omega) with h | ⟨h,h'⟩ | ⟨h,h'⟩ | ⟨h,h',h''⟩ | ⟨h,h'⟩ | h;case inr.inr.inr.inl=>
       have b1:((c.toNat:Int)==95)=true:=beq_iff_eq.2 aj;clear h;rcases hlow with g | g | ⟨g,g'⟩;all_goals
        go_wp2_with (go_at_call 278;refine (LOW.out _).mono ?_;rintro e w' ⟨rfl,fU⟩;have hw2:=fU.symm;subst hw2)
        go_ret2
        exact ⟨by rw [HF.out];rfl,BJ.out⟩
      all_goals
       rcases hlow with g | g | ⟨g,g'⟩
       all_goals
        go_wp2_with (go_at_call 278;refine (LOW.out _).mono ?_;rintro e w' ⟨rfl,fU⟩;have hw2:=fU.symm;subst hw2)
        go_ret2
        exact ⟨by rw [HF.out];rfl,BJ.out⟩
    {have HF:Hid (a*16+((c.toNat:Int)-48)=((acc*16+(c.toNat-48):Nat):Int)∧acc*16+(c.toNat-48)<16 ^ (k+1)∧ANS=Tm.eH (s.length-(k+1)) (s.drop (k+1)) (acc*16+(c.toNat-48))):=hid ⟨aj,HP.out _ aj,by rw [HST.out,Ju ⟨h,h'⟩]⟩;clear f1 f2 f3 HST HP ha;go_wp2;refine ⟨⟨k+1,acc*16+(c.toNat-48),a*16+((c.toNat:Int)-48),rfl,(by first | rfl | (congr 1;omega)),(by first | rfl | (congr 1;omega)),aj,HF⟩,by simp [intOf];omega⟩};{have HF:Hid (a*16+((lw:Int)-87)=((acc*16+(c.toNat-87):Nat):Int)∧acc*16+(c.toNat-87)<16 ^ (k+1)∧ANS=Tm.eH (s.length-(k+1)) (s.drop (k+1)) (acc*16+(c.toNat-87))):=hid ⟨by have:=f1 ⟨h,h'⟩;omega,HP.out _ aj,by rw [HST.out,Jv ⟨h,h'⟩]⟩;have g:97≤lw∧lw≤102:=(by have:=f1 ⟨h,h'⟩;omega);obtain ⟨g,g'⟩:=g;clear f1 f2 f3 HST HP ha;(go_wp2_with (go_at_call 278;refine (LOW.out _).mono ?_;rintro e w' ⟨rfl,fU⟩;have hw2:=fU.symm;subst hw2));refine ⟨⟨k+1,acc*16+(c.toNat-87),a*16+((lw:Int)-87),rfl,(by first | rfl | (congr 1;omega)),(by first | rfl | (congr 1;omega)),aj,HF⟩,by simp [intOf];omega⟩};{have HF:Hid (a*16+((lw:Int)-87)=((acc*16+(c.toNat-55):Nat):Int)∧acc*16+(c.toNat-55)<16 ^ (k+1)∧ANS=Tm.eH (s.length-(k+1)) (s.drop (k+1)) (acc*16+(c.toNat-55))):=hid ⟨by have:=f2 ⟨h,h'⟩;omega,HP.out _ aj,by rw [HST.out,Jw ⟨h,h'⟩]⟩;have g:97≤lw∧lw≤102:=(by have:=f2 ⟨h,h'⟩;omega);obtain ⟨g,g'⟩:=g;clear f1 f2 f3 HST HP ha;(go_wp2_with (go_at_call 278;refine (LOW.out _).mono ?_;rintro e w' ⟨rfl,fU⟩;have hw2:=fU.symm;subst hw2));refine ⟨⟨k+1,acc*16+(c.toNat-55),a*16+((lw:Int)-87),rfl,(by first | rfl | (congr 1;omega)),(by first | rfl | (congr 1;omega)),aj,HF⟩,by simp [intOf];omega⟩}
  · obtain rfl:k=s.length:=aj;have HF:=hid (show ANS=some acc by rw [hdec,Nat.sub_self];rfl);subst ha;clear hB hdec hacc;go_wp2;go_ret2
    exact ⟨by rw [HF.out];rfl,BJ.out⟩
def dz (w:World):Prop:=∃ ev,w.cell? ⟨4,0,none⟩=some ev∧(ev=.nilIface∨∃ te pe,ev=.iface te pe)
theorem dz.keep {w w':World} (h:dz w) (hb:Below w.heap.size w w'):dz w':=by obtain ⟨ev,h1,h2⟩:=h;exact ⟨ev,(hb.cell (lt_of_cell h1)).trans h1,h2⟩
theorem dz.but {q:Nat} {w w':World} (h:dz w) (hb:But q w w') (hq:q≠4):dz w':=by obtain ⟨ev,h1,h2⟩:=h;have hk:=hb.block 4 (lt_of_cell h1) (by simpa using fun e=>hq e.symm);refine ⟨ev,?_,h2⟩;rw [←h1];simp only [World.cell?,hk]
theorem Fy:∀ (n:Nat) (s:List UInt8) (x:Nat),n≤s.length→Tm.eH (s.take n).length (s.take n) x=Tm.eH n s x
 | 0,s,x,_=>by simp [Tm.eH]
 | n+1,[],x,h=>by simp at h
 | n+1,c::t,x,h=>by
  simp only [List.length_cons] at h
  rw [List.take_succ_cons,List.length_cons]
  unfold Tm.eH
  cases Tm.jO c with
  | none=>rfl
  | some d=>exact Fy n t _ aj
theorem Nz:∀ (n:Nat) (s:List UInt8) (x y:Nat),Tm.eH n s x=some y→y<(x+1)*16 ^ n
 | 0,s,x,y,h=>by
  unfold Tm.eH at h;simp only [Option.some.injEq] at h;omega
 | n+1,[],x,y,h=>by unfold Tm.eH at h;cases h
 | n+1,c::t,x,y,h=>by
  unfold Tm.eH at h
  cases hc:Tm.jO c with
  | none=>rw [hc] at h;cases h
  | some d=>
   rw [hc] at h
   have h2:=Nz n t _ y h
   have hd:d<16:=by
    unfold Tm.jO at hc
    split at hc
    · simp only [Option.some.injEq] at hc;omega
    · split at hc
      · simp only [Option.some.injEq] at hc;omega
      · split at hc
        · simp only [Option.some.injEq] at hc;omega
        · cases hc
   rw [Nat.pow_succ,Nat.mul_comm (16 ^ n) 16,←Nat.mul_assoc]
   exact Nat.lt_of_lt_of_le h2 (Nat.mul_le_mul_right _ aj)
theorem aad (s:List UInt8) (x:Nat) (w:World) (h0:0<s.length) (h8:s.length≤8) (hx:Tm.eH s.length s 0=some x) :
  Calls prog 260 #[str s,.int .i64 16,.int .i64 32] w fun e w'=>e=.returned (.tuple #[.int .u64 (x:Nat),.nilIface])∧Below w.heap.size w w':=by
 have IP:=hid fun w=>Nw s w h0 h8;rw [hx] at IP;have Fz:Hid (∀ w,Calls prog 271 #[str s,.int .i64 16,.int .i64 32] w fun e w'=>e=.returned (.tuple #[.int .u64 (x:Nat),.nilIface])∧Below w.heap.size w w'):=IP;clear IP;go_enter func260,ntmps260;go_wp2_with fail
 refine (Fz.out _).mono ?_;rintro e w2 ⟨rfl,hb⟩;have HB:=hid hb;clear hb;go_wp2;go_ret2
 exact ⟨rfl,HB.out⟩
theorem aae (s:List UInt8) (w:World) (hE:dz w) (h0:0<s.length) (h8:s.length≤8) (hx:Tm.eH s.length s 0=none) :
  Calls prog 260 #[str s,.int .i64 16,.int .i64 32] w fun e w'=>(∃ t a,e=.returned (.tuple #[.int .u64 0,.iface t (.pointer (some a))]))∧Below w.heap.size w w':=by
 have IP:=hid fun w=>Nw s w h0 h8;rw [hx] at IP;have Fz:Hid (∀ w,Calls prog 271 #[str s,.int .i64 16,.int .i64 32] w fun e w'=>e=.returned (.tuple #[.int .u64 0,.iface 312 (.int .i64 2)])∧Below w.heap.size w w'):=IP;have HE:=hid hE;clear IP hE;go_enter func260,ntmps260;go_wp2_with fail
 refine (Fz.out _).mono ?_;rintro e w2 ⟨rfl,hb⟩;have HB:=hid hb;obtain ⟨ev,k1,k2⟩:=HE.out.keep hb;have TE:=hid fun fn=>Tryz.strconv_toError_syntax fn ⟨s.toArray⟩ 16 32 ev w2 (by simp [ByteArray.size];omega) k1 k2;clear hb k1 k2;go_wp2_with fail
 refine (TE.out _).mono ?_;rintro e w3 ⟨N,rfl,_,_,hb⟩;have HB3:=hid (aG HB.out hb);clear hb;go_wp2;go_ret2
 exact ⟨⟨_,_,rfl⟩,HB3.out⟩
def yC (r:Option Nat):Value:=match r with
 | some x=>.tuple #[.int .i32 (x:Nat),.bool true]
 | none=>.tuple #[.int .i32 0,.bool false]
theorem aaf (x:Nat) (hx:x≤1114111) (w:World):Calls prog 261 #[.int .i32 (x:Nat)] w fun e w'=>e=.returned (.bool (decide (¬ (55296≤x∧x≤57343))))∧w'=w:=by
 have h:=Tryz.utf8_ValidRune (x:Int) w;have hv:Lib.validRune (x:Int)=decide (¬ (55296≤x∧x≤57343)):=by unfold Lib.validRune;rw [Bool.eq_iff_iff];simp only [decide_eq_true_eq];omega
 rw [hv] at h;exact h
theorem aag (q n:Nat) (l:List UInt8) (i:Nat) (w:World) (hE:dz w) (hn:n=4∨n=8) (hr:Pr w q l i) (hl:l.length≤100000000) (hi:i≤l.length) (hs:l.length<i+n) :
  Calls prog 251 #[bB q,.int .i64 (n:Nat)] w fun x w'=>x=.returned (yC (Tm.cO n (l.drop i)))∧(∃ j,j≤l.length∧(Tm.cO n (l.drop i)≠none→j=i+n)∧Pr w' q l j)∧But q w w':=by
 obtain ⟨c0,c1,f0,f1⟩:=hr.cells;have HR:=hid hr;have HE:=hid hE;have Fx:(i:Int)≤(l.length:Int):=aj;have yD:n≤8:=aj;have hn0:0<n:=aj;clear hr hE;have HN:=hid (show Tm.cO n (l.drop i)=none by unfold Tm.cO;rw [zG n _ 0 (by rw [List.length_drop];omega)]);have hz:decide ((l.length:Int)-(i:Int)<(n:Int))=true:=decide_eq_true aj;clear hn hs;go_enter func251,ntmps251;go_wp2;go_quiet (fail)
 go_wp2;go_ret2
 exact ⟨by rw [HN.out];rfl,⟨i,hi,fun h=>absurd HN.out h,HR.out⟩,But.drawn q w _⟩
theorem aah (q n:Nat) (l:List UInt8) (i:Nat) (w:World) (hE:dz w) (hn:n=4∨n=8) (hr:Pr w q l i) (hl:l.length≤100000000) (hi:i≤l.length) (hs:¬ l.length<i+n) (hx:Tm.eH n (l.drop i) 0=none) :
  Calls prog 251 #[bB q,.int .i64 (n:Nat)] w fun x w'=>x=.returned (yC (Tm.cO n (l.drop i)))∧(∃ j,j≤l.length∧(Tm.cO n (l.drop i)≠none→j=i+n)∧Pr w' q l j)∧But q w w':=by
 obtain ⟨c0,c1,f0,f1⟩:=hr.cells;have HR:=hid hr;have HE:=hid hE;have Fx:(i:Int)≤(l.length:Int):=aj;have yD:n≤8:=aj;have hn0:0<n:=aj;clear hr hE;have hdl:n≤(l.drop i).length:=by rw [List.length_drop];omega
 have htl:((l.drop i).take n).length=n:=by rw [List.length_take];omega
 obtain ⟨m,hm⟩:=aA (i+n);have hex:(⟨l.toArray⟩:ByteArray).extract i m=⟨((l.drop i).take n).toArray⟩:=by rw [hm,og];congr 3;omega
 have hw:IntKind.i64.wrap ((i:Int)+(n:Int))=(m:Int):=by rw [IntKind.wrap_i64];omega
 have him:i≤m:=aj;have hml:m≤l.length:=aj;have hmz:(i:Int)≤(m:Int):=aj;have aai:(m:Int)≤(l.length:Int):=aj;have hz:decide ((l.length:Int)-(i:Int)<(n:Int))=false:=decide_eq_false aj;have HM:=hid hm;have HN:=hid (show Tm.cO n (l.drop i)=none by unfold Tm.cO;rw [hx]);have SP:=hid fun w h=>aae ((l.drop i).take n) w h aj aj (by rw [htl,←hx,←Fy n _ 0 hdl,htl]);clear hn hs hx hdl htl hm;go_enter func251,ntmps251;go_wp2;go_quiet (fail)
 go_wp2;go_region_with ((go_at_call 260;refine (SP.out _ (show dz (w.drewN (nq+1)) from HE.out)).mono ?_;rintro e w2 ⟨⟨t,a,rfl⟩,hb⟩;have HR2:Hid (Pr w2 q l i):=hid (by refine Pr.keep ?_ hb;exact HR.out);have jX:=HR2.out.cells;obtain ⟨d0,d1,g0,g1⟩:=jX))
 all_goals
  go_wp2
  go_ret2
  exact ⟨by rw [HN.out];rfl,⟨m,hml,fun h=>absurd HN.out h,HR2.out.to _⟩,(But.below (aG (cB (Below.refl w.heap.size w) _) hb)).trans (But.set q _ 1 _)⟩
theorem aaj (q n:Nat) (l:List UInt8) (i:Nat) (w:World) (hE:dz w) (hn:n=4∨n=8) (hr:Pr w q l i) (hl:l.length≤100000000) (hi:i≤l.length) (x:Nat) (hs:¬ l.length<i+n) (hx:Tm.eH n (l.drop i) 0=some x) :
  Calls prog 251 #[bB q,.int .i64 (n:Nat)] w fun x w'=>x=.returned (yC (Tm.cO n (l.drop i)))∧(∃ j,j≤l.length∧(Tm.cO n (l.drop i)≠none→j=i+n)∧Pr w' q l j)∧But q w w':=by
 obtain ⟨c0,c1,f0,f1⟩:=hr.cells;have HR:=hid hr;have HE:=hid hE;have Fx:(i:Int)≤(l.length:Int):=aj;have yD:n≤8:=aj;have hn0:0<n:=aj;clear hr hE;have hdl:n≤(l.drop i).length:=by rw [List.length_drop];omega
 have htl:((l.drop i).take n).length=n:=by rw [List.length_take];omega
 obtain ⟨m,hm⟩:=aA (i+n);have hex:(⟨l.toArray⟩:ByteArray).extract i m=⟨((l.drop i).take n).toArray⟩:=by rw [hm,og];congr 3;omega
 have hw:IntKind.i64.wrap ((i:Int)+(n:Int))=(m:Int):=by rw [IntKind.wrap_i64];omega
 have him:i≤m:=aj;have hml:m≤l.length:=aj;have hmz:(i:Int)≤(m:Int):=aj;have aai:(m:Int)≤(l.length:Int):=aj;have hz:decide ((l.length:Int)-(i:Int)<(n:Int))=false:=decide_eq_false aj;have HM:=hid hm;have hxl:=Nz n _ 0 x hx;have hx32:x<4294967296:=by have h1:=Nat.pow_le_pow_right (show 0<16 by omega) yD;have h2:(16:Nat) ^ 8=4294967296:=aH;omega
 have SP:=hid fun w=>aad ((l.drop i).take n) x w aj aj (by rw [htl,←hx,←Fy n _ 0 hdl,htl]);have HX:=hid hx;have VR:=hid fun h w=>aaf x h w;clear hn hs hx hdl htl hm hxl;rcases (show 1114111<x∨(x≤1114111∧(55296≤x∧x≤57343))∨(x≤1114111∧¬ (55296≤x∧x≤57343)) by omega) with h | ⟨h,h'⟩ | ⟨h,h'⟩
 · have HN:=hid (show Tm.cO n (l.drop i)=none by unfold Tm.cO;rw [HX.out];simp only;rw [if_pos (.inl h)]);go_enter func251,ntmps251;go_wp2;(go_quiet (fail));go_wp2;go_region_with ((go_at_call 260;refine (SP.out (w.drewN (nq+1))).mono ?_;rintro e w2 ⟨rfl,hb⟩;have HR2:Hid (Pr w2 q l i):=hid (by refine Pr.keep ?_ hb;exact HR.out);have jX:=HR2.out.cells;obtain ⟨d0,d1,g0,g1⟩:=jX))
   all_goals
    go_wp2
    go_ret2
    exact ⟨by rw [HN.out];rfl,⟨m,hml,fun h=>absurd HN.out h,HR2.out.to _⟩,(But.below (aG (cB (Below.refl w.heap.size w) _) hb)).trans (But.set q _ 1 _)⟩
 · have HN:=hid (show Tm.cO n (l.drop i)=none by unfold Tm.cO;rw [HX.out];simp only;rw [if_pos (.inr h')]);have yE:=hid (VR.out h);rw [decide_eq_false aj] at yE;clear h';go_enter func251,ntmps251;go_wp2;(go_quiet (fail));go_wp2;go_region_with ((go_at_call 260;refine (SP.out (w.drewN (nq+1))).mono ?_;rintro e w2 ⟨rfl,hb⟩;have HR2:Hid (Pr w2 q l i):=hid (by refine Pr.keep ?_ hb;exact HR.out);have jX:=HR2.out.cells;obtain ⟨d0,d1,g0,g1⟩:=jX))
   all_goals
    go_wp2_with (go_at_call 261;refine (yE.out _).mono ?_;rintro e w' ⟨rfl,fU⟩;have hw2:=fU.symm;subst hw2)
    go_ret2
    exact ⟨by rw [HN.out];rfl,⟨m,hml,fun h=>absurd HN.out h,HR2.out.to _⟩,(But.below (aG (cB (Below.refl w.heap.size w) _) hb)).trans (But.set q _ 1 _)⟩
 · have HN:=hid (show Tm.cO n (l.drop i)=some x by unfold Tm.cO;rw [HX.out];simp only;rw [if_neg aj]);have yE:=hid (VR.out h);rw [decide_eq_true aj] at yE;clear h';go_enter func251,ntmps251;go_wp2;(go_quiet (fail));go_wp2;go_region_with ((go_at_call 260;refine (SP.out (w.drewN (nq+1))).mono ?_;rintro e w2 ⟨rfl,hb⟩;have HR2:Hid (Pr w2 q l i):=hid (by refine Pr.keep ?_ hb;exact HR.out);have jX:=HR2.out.cells;obtain ⟨d0,d1,g0,g1⟩:=jX))
   all_goals
    go_wp2_with (go_at_call 261;refine (yE.out _).mono ?_;rintro e w' ⟨rfl,fU⟩;have hw2:=fU.symm;subst hw2)
    go_ret2
    exact ⟨by rw [HN.out];rfl,⟨m,hml,fun _=>HM.out,HR2.out.to _⟩,(But.below (aG (cB (Below.refl w.heap.size w) _) hb)).trans (But.set q _ 1 _)⟩
end Go.Proofs.YtjaebndajhppgaaGreatDoor
