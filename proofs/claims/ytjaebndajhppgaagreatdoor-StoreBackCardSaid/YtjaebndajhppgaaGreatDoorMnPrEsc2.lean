/-PrEsc2-/
import Derived.Test.YtjaebndajhppgaaGreatDoorMnGPr1
import Derived.Test.YtjaebndajhppgaaGreatDoorMnGLn1
import Derived.Test.YtjaebndajhppgaaGreatDoorMnShelf
import Derived.Lib.ConvBytes
import Derived.Deep.RegionWith
set_option linter.unusedVariables false
set_option linter.unusedSimpArgs false
set_option maxRecDepth 100000
set_option maxHeartbeats 4000000
namespace Go.Proofs.YtjaebndajhppgaaGreatDoor
open Go.ChangeShapes Go.WideShapes Go.ChangeAt Go.RowKit
theorem aaQ:∀ k:Fin 256,bits .or .u8 ((k.val:Nat):Int) 32=((k.val ||| 32:Nat):Int):=by decide
theorem aaR:∀ k:Fin 256,(97≤k.val∧k.val≤102→k.val ||| 32=k.val)∧(65≤k.val∧k.val≤70→k.val ||| 32=k.val+32)∧((k.val<65∨(70<k.val∧k.val<97)∨102<k.val)→(k.val ||| 32<97∨102<k.val ||| 32))∧k.val ||| 32<256:=by decide
theorem aaS (c:UInt8) (w:World):Calls Tryz.prog 278 #[.int .u8 (c.toNat:Nat)] w fun e w'=>e=.returned (.int .u8 ((c.toNat ||| 32:Nat):Int))∧w'=w:=by have h:=aaQ ⟨c.toNat,c.toNat_lt⟩;simp only at h;have H:=hid h;clear h;go_enter Tryz.func278,Tryz.ntmps278;go_wp2;go_ret;exact ⟨congrArg (fun z=>Ending.returned (.int .u8 z)) H.out,rfl⟩
def aaT (r:Option Nat):Value:=match r with
 | none=>.tuple #[.int .u64 0,.iface 312 (.int .i64 2)]
 | some x=>.tuple #[.int .u64 (x:Nat),.nilIface]
theorem N_ (s:List UInt8) (w:World) (h0:0<s.length) (h8:s.length≤8) :
  Calls Tryz.prog 271 #[str s,.int .i64 16,.int .i64 32] w fun e w'=>e=.returned (aaT (Tm.dW s.length s 0))∧Below w.heap.size w w':=by
 have hsz:(⟨s.toArray⟩:ByteArray).size=s.length:=by simp [ByteArray.size]
 have hcv:=Lib.run_convert_string_bytes (P:=Tryz.prog) w 9 32 5 ⟨s.toArray⟩ (u:=.string) Tryz.underlying9 Tryz.underlying32 Tryz.underlying5;have hB:∀ j,j<s.length→(Lib.bytesWorld w 5 ⟨s.toArray⟩).cell? ⟨w.heap.size,j,none⟩=some (.int .u8 (s.getD j 0).toNat):=fun j hj=>Lib.bytesWorld_cell w 5 ⟨s.toArray⟩ j (by rw [hsz];exact hj);have Bb:=hid (show Below w.heap.size w (Lib.bytesWorld w 5 ⟨s.toArray⟩) by exact ⟨rfl,rfl,rfl,by rw [Lib.bytesWorld_size];omega,fun i hi=>Lib.bytesWorld_at_old w 5 _ i hi⟩);rw [hsz] at hcv;obtain ⟨W1,hW1⟩:∃ W1,W1=Lib.bytesWorld w 5 ⟨s.toArray⟩:=⟨_,rfl⟩;rw [←hW1] at hcv hB Bb;have hem:(s==[])=false:=by cases s with
  | nil=>simp at h0
  | cons _ _=>rfl
 obtain ⟨ANS,hA⟩:∃ a,a=Tm.dW s.length s 0:=⟨_,rfl⟩;rw [←hA];have HA:=hid (show ANS=Tm.dW (s.length-0) (s.drop 0) 0 by rw [hA];rfl);have hLz:(s.length:Int)≤8:=by omega
 clear hA hW1;go_enter Tryz.func271,Tryz.ntmps271;go_wp2;go_loop [12,13,101] (fun vu vn vi=>∃ (k acc:Nat) (a:Int),vu=.bool false∧vn=.int .u64 a∧vi=.int .i64 k∧k≤s.length∧Hid (a=(acc:Int)∧acc<16 ^ k∧ANS=Tm.dW (s.length-k) (s.drop k) acc))
  (fun _ _ vi=>s.length-(intOf vi).toNat)
 case atStart=>exact ⟨0,0,0,rfl,rfl,rfl,by omega,rfl,by decide,HA.out⟩
 case round=>
  obtain ⟨k,acc,a,rfl,rfl,rfl,hk,hh⟩:=hrel;obtain ⟨ha,hacc,hdec⟩:=hh.out;clear hh;have a0:0≤a:=by omega
  by_cases hkn:k<s.length
  · have agp:acc<268435456:=Nat.lt_of_lt_of_le hacc (Uo k (by omega));have a1:a<268435456:=(by omega);have hc:=hB k hkn;obtain ⟨c,hget⟩:∃ c,s[k]?=some c:=⟨_,List.getElem?_eq_getElem hkn⟩;have hgd:s.getD k 0=c:=(by rw [List.getD,hget];rfl);rw [hgd] at hc;have HST:=hid (hdec.trans ((congrArg (fun n=>Tm.dW n (s.drop k) acc) (show s.length-k=s.length-(k+1)+1 by omega)).trans (Uq (s.length-(k+1)) s k acc c hget)));have LOW:=hid fun w=>aaS c w;have hc256:c.toNat<256:=c.toNat_lt;obtain ⟨f1,f2,f3,f4⟩:=aaR ⟨c.toNat,hc256⟩;simp only at f1 f2 f3 f4;have HP:=hid (fun d (hd:d<16)=>show acc*16+d<16 ^ (k+1) by rw [Nat.pow_succ];omega);obtain ⟨lw,Oa⟩:∃ lw,lw=c.toNat ||| 32:=⟨_,rfl⟩;rw [←Oa] at f1 f2 f3 f4 LOW;clear hB hget hgd hdec hacc Oa;rcases (show (c.toNat<48∨(57<c.toNat∧c.toNat<65)∨(70<c.toNat∧c.toNat<97)∨102<c.toNat)∨(48≤c.toNat∧c.toNat≤57)∨(97≤c.toNat∧c.toNat≤102)∨(65≤c.toNat∧c.toNat≤70) by omega) with h | ⟨h,h'⟩ | ⟨h,h'⟩ | ⟨h,h'⟩
    · have HF:=hid (show ANS=none by rw [HST.out,Uu h]);have hlow:lw<97∨122<lw∨(102<lw∧lw≤122):=(by have:=f3 (by omega);omega);clear f1 f2 f3 HST HP ha;rcases (show c.toNat<48∨(57<c.toNat∧c.toNat<65)∨(70<c.toNat∧c.toNat<95)∨(c.toNat=95∧70<c.toNat∧c.toNat<97)∨(95<c.toNat∧c.toNat<97)∨102<c.toNat by omega) with h | ⟨h,h'⟩ | ⟨h,h'⟩ | ⟨h,h',h''⟩ | ⟨h,h'⟩ | h;case inr.inr.inr.inl=>
       have b1:((c.toNat:Int)==95)=true:=beq_iff_eq.2 (by omega);clear h;rcases hlow with g | g | ⟨g,g'⟩;all_goals
        go_wp2_with (go_at_call 278;refine (LOW.out _).mono ?_;rintro e w' ⟨rfl,dx⟩;have hw2:=dx.symm;subst hw2)
        go_ret2
        exact ⟨by rw [HF.out];rfl,Bb.out⟩
      all_goals
       rcases hlow with g | g | ⟨g,g'⟩
       all_goals
        go_wp2_with (go_at_call 278;refine (LOW.out _).mono ?_;rintro e w' ⟨rfl,dx⟩;have hw2:=dx.symm;subst hw2)
        go_ret2
        exact ⟨by rw [HF.out];rfl,Bb.out⟩
    {have HF:Hid (a*16+((c.toNat:Int)-48)=((acc*16+(c.toNat-48):Nat):Int)∧acc*16+(c.toNat-48)<16 ^ (k+1)∧ANS=Tm.dW (s.length-(k+1)) (s.drop (k+1)) (acc*16+(c.toNat-48))):=hid ⟨by omega,HP.out _ (by omega),by rw [HST.out,Ur ⟨h,h'⟩]⟩;clear f1 f2 f3 HST HP ha;go_wp2;refine ⟨⟨k+1,acc*16+(c.toNat-48),a*16+((c.toNat:Int)-48),rfl,(by first | rfl | (congr 1;omega)),(by first | rfl | (congr 1;omega)),by omega,HF⟩,by simp [intOf];omega⟩};{have HF:Hid (a*16+((lw:Int)-87)=((acc*16+(c.toNat-87):Nat):Int)∧acc*16+(c.toNat-87)<16 ^ (k+1)∧ANS=Tm.dW (s.length-(k+1)) (s.drop (k+1)) (acc*16+(c.toNat-87))):=hid ⟨by have:=f1 ⟨h,h'⟩;omega,HP.out _ (by omega),by rw [HST.out,Us ⟨h,h'⟩]⟩;have g:97≤lw∧lw≤102:=(by have:=f1 ⟨h,h'⟩;omega);obtain ⟨g,g'⟩:=g;clear f1 f2 f3 HST HP ha;(go_wp2_with (go_at_call 278;refine (LOW.out _).mono ?_;rintro e w' ⟨rfl,dx⟩;have hw2:=dx.symm;subst hw2));refine ⟨⟨k+1,acc*16+(c.toNat-87),a*16+((lw:Int)-87),rfl,(by first | rfl | (congr 1;omega)),(by first | rfl | (congr 1;omega)),by omega,HF⟩,by simp [intOf];omega⟩};{have HF:Hid (a*16+((lw:Int)-87)=((acc*16+(c.toNat-55):Nat):Int)∧acc*16+(c.toNat-55)<16 ^ (k+1)∧ANS=Tm.dW (s.length-(k+1)) (s.drop (k+1)) (acc*16+(c.toNat-55))):=hid ⟨by have:=f2 ⟨h,h'⟩;omega,HP.out _ (by omega),by rw [HST.out,Ut ⟨h,h'⟩]⟩;have g:97≤lw∧lw≤102:=(by have:=f2 ⟨h,h'⟩;omega);obtain ⟨g,g'⟩:=g;clear f1 f2 f3 HST HP ha;(go_wp2_with (go_at_call 278;refine (LOW.out _).mono ?_;rintro e w' ⟨rfl,dx⟩;have hw2:=dx.symm;subst hw2));refine ⟨⟨k+1,acc*16+(c.toNat-55),a*16+((lw:Int)-87),rfl,(by first | rfl | (congr 1;omega)),(by first | rfl | (congr 1;omega)),by omega,HF⟩,by simp [intOf];omega⟩}
  · obtain rfl:k=s.length:=(by omega);have HF:=hid (show ANS=some acc by rw [hdec,Nat.sub_self];rfl);subst ha;clear hB hdec hacc;go_wp2;go_ret2
    exact ⟨by rw [HF.out];rfl,Bb.out⟩
end Go.Proofs.YtjaebndajhppgaaGreatDoor
namespace Go.Proofs.YtjaebndajhppgaaGreatDoor
open Go.ChangeShapes Go.WideShapes Go.ChangeAt Go.RowKit
def bO (w:World):Prop:=∃ ev,w.cell? ⟨4,0,none⟩=some ev∧(ev=.nilIface∨∃ te pe,ev=.iface te pe)
theorem bO.keep {w w':World} (h:bO w) (hb:Below w.heap.size w w'):bO w':=by obtain ⟨ev,h1,h2⟩:=h;exact ⟨ev,(hb.cell (lt_of_cell h1)).trans h1,h2⟩
theorem bO.but {q:Nat} {w w':World} (h:bO w) (hb:But q w w') (hq:q≠4):bO w':=by obtain ⟨ev,h1,h2⟩:=h;have hk:=hb.block 4 (lt_of_cell h1) (by simpa using fun e=>hq e.symm);refine ⟨ev,?_,h2⟩;rw [←h1];simp only [World.cell?,hk]
theorem FP:∀ (n:Nat) (s:List UInt8) (x:Nat),n≤s.length→Tm.dW (s.take n).length (s.take n) x=Tm.dW n s x
 | 0,s,x,_=>by simp [Tm.dW]
 | n+1,[],x,h=>by simp at h
 | n+1,c::t,x,h=>by
  simp only [List.length_cons] at h
  rw [List.take_succ_cons,List.length_cons]
  unfold Tm.dW
  cases Tm.jc c with
  | none=>rfl
  | some d=>exact FP n t _ (by omega)
theorem Ob:∀ (n:Nat) (s:List UInt8) (x y:Nat),Tm.dW n s x=some y→y<(x+1)*16 ^ n
 | 0,s,x,y,h=>by
  unfold Tm.dW at h;simp only [Option.some.injEq] at h;omega
 | n+1,[],x,y,h=>by unfold Tm.dW at h;cases h
 | n+1,c::t,x,y,h=>by
  unfold Tm.dW at h
  cases hc:Tm.jc c with
  | none=>rw [hc] at h;cases h
  | some d=>
   rw [hc] at h
   have h2:=Ob n t _ y h
   have hd:d<16:=by
    unfold Tm.jc at hc
    split at hc
    · simp only [Option.some.injEq] at hc;omega
    · split at hc
      · simp only [Option.some.injEq] at hc;omega
      · split at hc
        · simp only [Option.some.injEq] at hc;omega
        · cases hc
   rw [Nat.pow_succ,Nat.mul_comm (16 ^ n) 16,←Nat.mul_assoc]
   exact Nat.lt_of_lt_of_le h2 (Nat.mul_le_mul_right _ (by omega))
theorem aaU (s:List UInt8) (x:Nat) (w:World) (h0:0<s.length) (h8:s.length≤8) (hx:Tm.dW s.length s 0=some x) :
  Calls Tryz.prog 260 #[str s,.int .i64 16,.int .i64 32] w fun e w'=>e=.returned (.tuple #[.int .u64 (x:Nat),.nilIface])∧Below w.heap.size w w':=by
 have IP:=hid fun w=>N_ s w h0 h8;rw [hx] at IP;have FQ:Hid (∀ w,Calls Tryz.prog 271 #[str s,.int .i64 16,.int .i64 32] w fun e w'=>e=.returned (.tuple #[.int .u64 (x:Nat),.nilIface])∧Below w.heap.size w w'):=IP;clear IP;go_enter Tryz.func260,Tryz.ntmps260;go_wp2_with fail
 refine (FQ.out _).mono ?_;rintro e w2 ⟨rfl,hb⟩;have HB:=hid hb;clear hb;go_wp2;go_ret2
 exact ⟨rfl,HB.out⟩
theorem aaV (s:List UInt8) (w:World) (hE:bO w) (h0:0<s.length) (h8:s.length≤8) (hx:Tm.dW s.length s 0=none) :
  Calls Tryz.prog 260 #[str s,.int .i64 16,.int .i64 32] w fun e w'=>(∃ t a,e=.returned (.tuple #[.int .u64 0,.iface t (.pointer (some a))]))∧Below w.heap.size w w':=by
 have IP:=hid fun w=>N_ s w h0 h8;rw [hx] at IP;have FQ:Hid (∀ w,Calls Tryz.prog 271 #[str s,.int .i64 16,.int .i64 32] w fun e w'=>e=.returned (.tuple #[.int .u64 0,.iface 312 (.int .i64 2)])∧Below w.heap.size w w'):=IP;have HE:=hid hE;clear IP hE;go_enter Tryz.func260,Tryz.ntmps260;go_wp2_with fail
 refine (FQ.out _).mono ?_;rintro e w2 ⟨rfl,hb⟩;have HB:=hid hb;obtain ⟨ev,k1,k2⟩:=HE.out.keep hb;have TE:=hid fun fn=>Tryz.strconv_toError_syntax fn ⟨s.toArray⟩ 16 32 ev w2 (by simp [ByteArray.size];omega) k1 k2;clear hb k1 k2;go_wp2_with fail
 refine (TE.out _).mono ?_;rintro e w3 ⟨N,rfl,_,_,hb⟩;have HB3:=hid (aA HB.out hb);clear hb;go_wp2;go_ret2
 exact ⟨⟨_,_,rfl⟩,HB3.out⟩
def xX (r:Option Nat):Value:=match r with
 | some x=>.tuple #[.int .i32 (x:Nat),.bool true]
 | none=>.tuple #[.int .i32 0,.bool false]
theorem aaW (x:Nat) (hx:x≤1114111) (w:World):Calls Tryz.prog 261 #[.int .i32 (x:Nat)] w fun e w'=>e=.returned (.bool (decide (¬ (55296≤x∧x≤57343))))∧w'=w:=by
 have h:=Tryz.utf8_ValidRune (x:Int) w;have hv:Lib.validRune (x:Int)=decide (¬ (55296≤x∧x≤57343)):=by unfold Lib.validRune;rw [Bool.eq_iff_iff];simp only [decide_eq_true_eq];omega
 rw [hv] at h;exact h
end Go.Proofs.YtjaebndajhppgaaGreatDoor
namespace Go.Proofs.YtjaebndajhppgaaGreatDoor
open Go.ChangeShapes Go.WideShapes Go.ChangeAt Go.RowKit
theorem aaX (q n:Nat) (l:List UInt8) (i:Nat) (w:World) (hE:bO w) (hn:n=4∨n=8) (hr:Pr w q l i) (hl:l.length≤100000000) (hi:i≤l.length) (hs:l.length<i+n) :
  Calls Tryz.prog 251 #[bg q,.int .i64 (n:Nat)] w fun x w'=>x=.returned (xX (Tm.cB n (l.drop i)))∧(∃ j,j≤l.length∧(Tm.cB n (l.drop i)≠none→j=i+n)∧Pr w' q l j)∧But q w w':=by
 obtain ⟨c0,c1,f0,f1⟩:=hr.cells;have HR:=hid hr;have HE:=hid hE;have FM:(i:Int)≤(l.length:Int):=by omega
 have xY:n≤8:=by omega
 have hn0:0<n:=by omega
 clear hr hE;have HN:=hid (show Tm.cB n (l.drop i)=none by unfold Tm.cB;rw [Di n _ 0 (by rw [List.length_drop];omega)]);have hz:decide ((l.length:Int)-(i:Int)<(n:Int))=true:=decide_eq_true (by omega);clear hn hs;go_enter Tryz.func251,Tryz.ntmps251;go_wp2;go_quiet (fail)
 go_wp2;go_ret2
 exact ⟨by rw [HN.out];rfl,⟨i,hi,fun h=>absurd HN.out h,HR.out⟩,But.drawn q w _⟩
theorem aaY (q n:Nat) (l:List UInt8) (i:Nat) (w:World) (hE:bO w) (hn:n=4∨n=8) (hr:Pr w q l i) (hl:l.length≤100000000) (hi:i≤l.length) (hs:¬ l.length<i+n) (hx:Tm.dW n (l.drop i) 0=none) :
  Calls Tryz.prog 251 #[bg q,.int .i64 (n:Nat)] w fun x w'=>x=.returned (xX (Tm.cB n (l.drop i)))∧(∃ j,j≤l.length∧(Tm.cB n (l.drop i)≠none→j=i+n)∧Pr w' q l j)∧But q w w':=by
 obtain ⟨c0,c1,f0,f1⟩:=hr.cells;have HR:=hid hr;have HE:=hid hE;have FM:(i:Int)≤(l.length:Int):=by omega
 have xY:n≤8:=by omega
 have hn0:0<n:=by omega
 clear hr hE;have hdl:n≤(l.drop i).length:=by rw [List.length_drop];omega
 have htl:((l.drop i).take n).length=n:=by rw [List.length_take];omega
 obtain ⟨m,hm⟩:∃ m,m=i+n:=⟨_,rfl⟩;have hex:(⟨l.toArray⟩:ByteArray).extract i m=⟨((l.drop i).take n).toArray⟩:=by rw [hm,qJ];congr 3;omega
 have hw:IntKind.i64.wrap ((i:Int)+(n:Int))=(m:Int):=by rw [IntKind.wrap_i64];omega
 have him:i≤m:=by omega
 have hml:m≤l.length:=by omega
 have hmz:(i:Int)≤(m:Int):=by omega
 have aaZ:(m:Int)≤(l.length:Int):=by omega
 have hz:decide ((l.length:Int)-(i:Int)<(n:Int))=false:=decide_eq_false (by omega);have HM:=hid hm;have HN:=hid (show Tm.cB n (l.drop i)=none by unfold Tm.cB;rw [hx]);have SP:=hid fun w h=>aaV ((l.drop i).take n) w h (by omega) (by omega) (by rw [htl,←hx,←FP n _ 0 hdl,htl]);clear hn hs hx hdl htl hm;go_enter Tryz.func251,Tryz.ntmps251;go_wp2;go_quiet (fail)
 go_wp2;go_region_with ((go_at_call 260;refine (SP.out _ (show bO (w.drewN (nq+1)) from HE.out)).mono ?_;rintro e w2 ⟨⟨t,a,rfl⟩,hb⟩;have HR2:Hid (Pr w2 q l i):=hid (by refine Pr.keep ?_ hb;exact HR.out);have gP:=HR2.out.cells;obtain ⟨d0,d1,g0,g1⟩:=gP))
 all_goals
  go_wp2
  go_ret2
  exact ⟨by rw [HN.out];rfl,⟨m,hml,fun h=>absurd HN.out h,HR2.out.to _⟩,(But.below (aA (aX (Below.refl w.heap.size w) _) hb)).trans (But.set q _ 1 _)⟩
theorem aa0 (q n:Nat) (l:List UInt8) (i:Nat) (w:World) (hE:bO w) (hn:n=4∨n=8) (hr:Pr w q l i) (hl:l.length≤100000000) (hi:i≤l.length) (x:Nat) (hs:¬ l.length<i+n) (hx:Tm.dW n (l.drop i) 0=some x) :
  Calls Tryz.prog 251 #[bg q,.int .i64 (n:Nat)] w fun x w'=>x=.returned (xX (Tm.cB n (l.drop i)))∧(∃ j,j≤l.length∧(Tm.cB n (l.drop i)≠none→j=i+n)∧Pr w' q l j)∧But q w w':=by
 obtain ⟨c0,c1,f0,f1⟩:=hr.cells;have HR:=hid hr;have HE:=hid hE;have FM:(i:Int)≤(l.length:Int):=by omega
 have xY:n≤8:=by omega
 have hn0:0<n:=by omega
 clear hr hE;have hdl:n≤(l.drop i).length:=by rw [List.length_drop];omega
 have htl:((l.drop i).take n).length=n:=by rw [List.length_take];omega
 obtain ⟨m,hm⟩:∃ m,m=i+n:=⟨_,rfl⟩;have hex:(⟨l.toArray⟩:ByteArray).extract i m=⟨((l.drop i).take n).toArray⟩:=by rw [hm,qJ];congr 3;omega
 have hw:IntKind.i64.wrap ((i:Int)+(n:Int))=(m:Int):=by rw [IntKind.wrap_i64];omega
 have him:i≤m:=by omega
 have hml:m≤l.length:=by omega
 have hmz:(i:Int)≤(m:Int):=by omega
 have aaZ:(m:Int)≤(l.length:Int):=by omega
 have hz:decide ((l.length:Int)-(i:Int)<(n:Int))=false:=decide_eq_false (by omega);have HM:=hid hm;have hxl:=Ob n _ 0 x hx;have hx32:x<4294967296:=by
  have h1:=Nat.pow_le_pow_right (show 0<16 by omega) xY;have h2:(16:Nat) ^ 8=4294967296:=by decide
  omega
 have SP:=hid fun w=>aaU ((l.drop i).take n) x w (by omega) (by omega) (by rw [htl,←hx,←FP n _ 0 hdl,htl]);have HX:=hid hx;have VR:=hid fun h w=>aaW x h w;clear hn hs hx hdl htl hm hxl;rcases (show 1114111<x∨(x≤1114111∧(55296≤x∧x≤57343))∨(x≤1114111∧¬ (55296≤x∧x≤57343)) by omega) with h | ⟨h,h'⟩ | ⟨h,h'⟩
 · have HN:=hid (show Tm.cB n (l.drop i)=none by unfold Tm.cB;rw [HX.out];simp only;rw [if_pos (.inl h)]);go_enter Tryz.func251,Tryz.ntmps251;go_wp2;(go_quiet (fail));go_wp2;go_region_with ((go_at_call 260;refine (SP.out (w.drewN (nq+1))).mono ?_;rintro e w2 ⟨rfl,hb⟩;have HR2:Hid (Pr w2 q l i):=hid (by refine Pr.keep ?_ hb;exact HR.out);have gP:=HR2.out.cells;obtain ⟨d0,d1,g0,g1⟩:=gP))
   all_goals
    go_wp2
    go_ret2
    exact ⟨by rw [HN.out];rfl,⟨m,hml,fun h=>absurd HN.out h,HR2.out.to _⟩,(But.below (aA (aX (Below.refl w.heap.size w) _) hb)).trans (But.set q _ 1 _)⟩
 · have HN:=hid (show Tm.cB n (l.drop i)=none by unfold Tm.cB;rw [HX.out];simp only;rw [if_pos (.inr h')]);have xZ:=hid (VR.out h);rw [decide_eq_false (by omega)] at xZ;clear h';go_enter Tryz.func251,Tryz.ntmps251;go_wp2;(go_quiet (fail));go_wp2;go_region_with ((go_at_call 260;refine (SP.out (w.drewN (nq+1))).mono ?_;rintro e w2 ⟨rfl,hb⟩;have HR2:Hid (Pr w2 q l i):=hid (by refine Pr.keep ?_ hb;exact HR.out);have gP:=HR2.out.cells;obtain ⟨d0,d1,g0,g1⟩:=gP))
   all_goals
    go_wp2_with (go_at_call 261;refine (xZ.out _).mono ?_;rintro e w' ⟨rfl,dx⟩;have hw2:=dx.symm;subst hw2)
    go_ret2
    exact ⟨by rw [HN.out];rfl,⟨m,hml,fun h=>absurd HN.out h,HR2.out.to _⟩,(But.below (aA (aX (Below.refl w.heap.size w) _) hb)).trans (But.set q _ 1 _)⟩
 · have HN:=hid (show Tm.cB n (l.drop i)=some x by unfold Tm.cB;rw [HX.out];simp only;rw [if_neg (by omega)]);have xZ:=hid (VR.out h);rw [decide_eq_true (by omega)] at xZ;clear h';go_enter Tryz.func251,Tryz.ntmps251;go_wp2;(go_quiet (fail));go_wp2;go_region_with ((go_at_call 260;refine (SP.out (w.drewN (nq+1))).mono ?_;rintro e w2 ⟨rfl,hb⟩;have HR2:Hid (Pr w2 q l i):=hid (by refine Pr.keep ?_ hb;exact HR.out);have gP:=HR2.out.cells;obtain ⟨d0,d1,g0,g1⟩:=gP))
   all_goals
    go_wp2_with (go_at_call 261;refine (xZ.out _).mono ?_;rintro e w' ⟨rfl,dx⟩;have hw2:=dx.symm;subst hw2)
    go_ret2
    exact ⟨by rw [HN.out];rfl,⟨m,hml,fun _=>HM.out,HR2.out.to _⟩,(But.below (aA (aX (Below.refl w.heap.size w) _) hb)).trans (But.set q _ 1 _)⟩
end Go.Proofs.YtjaebndajhppgaaGreatDoor
namespace Go.Proofs.YtjaebndajhppgaaGreatDoor
open Go.ChangeShapes Go.WideShapes Go.ChangeAt Go.RowKit
theorem Oc (q n:Nat) (l:List UInt8) (i:Nat) (w:World) (hE:bO w) (hn:n=4∨n=8) (hr:Pr w q l i) (hl:l.length≤100000000) (hi:i≤l.length) :
  Calls Tryz.prog 251 #[bg q,.int .i64 (n:Nat)] w fun x w'=>x=.returned (xX (Tm.cB n (l.drop i)))∧(∃ j,j≤l.length∧(Tm.cB n (l.drop i)≠none→j=i+n)∧Pr w' q l j)∧But q w w':=by
 by_cases hs:l.length<i+n;{exact aaX q n l i w hE hn hr hl hi hs}
 · cases hx:Tm.dW n (l.drop i) 0 with
   | none=>exact aaY q n l i w hE hn hr hl hi hs hx
   | some x=>exact aa0 q n l i w hE hn hr hl hi x hs hx
def gQ (lit:Bool) (s:List UInt8):Option (Nat×Nat):=match s with
 | []=>none
 | c::t=>if c=117 then (Tm.cB 4 t).map (fun x=>(x,5)) else if c=85 then (Tm.cB 8 t).map (fun x=>(x,9)) else if lit then (Tm.letter c).map (fun d=>(d.toNat,1)) else none
theorem Od {c d:UInt8} (h:Tm.letter c=some d):d.toNat<128:=by unfold Tm.letter at h;repeat (first | (split at h;· (simp only [Option.some.injEq] at h;subst h;decide)) | cases h)
theorem aa1:∀ k:Fin 128,Tm.iU k.val=[UInt8.ofNat k.val]:=by decide
theorem FR (lit:Bool) (s:List UInt8):Tm.jd lit s=(gQ lit s).map fun p=>(Tm.iU p.1,p.2):=by
 cases s with
 | nil=>rfl
 | cons c t=>
  have e0:Tm.jd lit (c::t)=if c=117 then (Tm.cB 4 t).map (fun x=>(Tm.iU x,5)) else if c=85 then (Tm.cB 8 t).map (fun x=>(Tm.iU x,9)) else if lit then (Tm.letter c).map (fun d=>([d],1)) else none:=rfl
  rw [e0];unfold gQ;simp only;split;{rw [Option.map_map];rfl}
  · split;{rw [Option.map_map];rfl}
    · split
      · cases h:Tm.letter c with
        | none=>rfl
        | some d=>have h2:=aa1 ⟨d.toNat,Od h⟩;simp only at h2;simp only [Option.map_some];rw [h2,UInt8.ofNat_toNat]
      {rfl}
theorem mo (q:Nat) (l p:List UInt8) (i:Nat) (w:World) (hr:Pr w q l i) (hl:l.length≤100000000) (hi:i≤l.length) (hp:p.length≤1000) (h:(l.drop i).take p.length=p) :
  Calls Tryz.prog 174 #[bg q,str p] w fun x w'=>x=.returned (.bool true)∧Pr w' q l (i+p.length)∧But q w w':=by have:=NZ q l p i w hr hl hi hp;rw [decide_eq_true h,if_pos h] at this;exact this
theorem gY (q:Nat) (l p:List UInt8) (i:Nat) (w:World) (hr:Pr w q l i) (hl:l.length≤100000000) (hi:i≤l.length) (hp:p.length≤1000) (h:(l.drop i).take p.length≠p) :
  Calls Tryz.prog 174 #[bg q,str p] w fun x w'=>x=.returned (.bool false)∧Pr w' q l i∧But q w w':=by have:=NZ q l p i w hr hl hi hp;rw [decide_eq_false h,if_neg h] at this;exact this
theorem take_one {s:List UInt8} {c:UInt8} (h:s.take 1=[c]):∃ t,s=c::t:=by
 cases s with
 | nil=>cases h
 | cons d t=>simp only [List.take_succ_cons,List.take_zero,List.cons.injEq,and_true] at h;exact ⟨t,by rw [h]⟩
def x9 (q i:Nat) (l:List UInt8) (w:World) (r:Option (Nat×Nat)) (x:Ending) (w':World):Prop:=
 x=.returned (xX (r.map (·.1)))∧(∃ j,j≤l.length∧(∀ p,r=some p→j=i+p.2)∧Pr w' q l j)∧But q w w'
theorem aa2 (q:Nat) (lit:Bool) (l t:List UInt8) (i:Nat) (w:World) (hE:bO w) (hq:q≠4) (hr:Pr w q l i) (hl:l.length≤100000000) (hi:i≤l.length) (hd:l.drop i=117::t) :
  Calls Tryz.prog 234 #[bg q,.bool lit] w (x9 q i l w (gQ lit (l.drop i))):=by
 obtain ⟨hjl,hget,dG⟩:=lJ l i 117 t hd;have SK:=hid (mo q l [117] i w hr hl hi (by decide) (by rw [hd];rfl));have HX:=hid fun w h1 h2=>Oc q 4 l (i+1) w h1 (.inl rfl) h2 hl (by omega);rw [dG] at HX;have HE:=hid hE;have oC:=hid (show gQ lit (l.drop i)=(Tm.cB 4 t).map (fun x=>(x,5)) by rw [hd];rfl);clear hd hget dG hr hE;cases hx:Tm.cB 4 t with
 | none=>
  rw [hx] at HX;have lG:Hid (∀ w,bO w→Pr w q l (i+1)→Calls Tryz.prog 251 #[bg q,.int .i64 4] w fun x w'=>x=.returned (.tuple #[.int .i32 0,.bool false])∧(∃ j,j≤l.length∧((none:Option Nat)≠none→j=i+1+4)∧Pr w' q l j)∧But q w w'):=HX;have HF:=hid (show gQ lit (l.drop i)=none by rw [oC.out,hx];rfl);clear HX oC hx;go_enter Tryz.func234,Tryz.ntmps234;go_wp2_with fail
  refine SK.out.mono ?_;rintro x w2 ⟨rfl,hr2,hb2⟩;have HR2:=hid hr2;have HB2:=hid hb2;clear hr2 hb2;go_wp2_with fail
  refine (lG.out _ (HE.out.but HB2.out hq) HR2.out).mono ?_;rintro x w3 ⟨rfl,⟨j,hj,_,hr3⟩,hb3⟩;have HR3:=hid hr3;have HB3:=hid hb3;clear hr3 hb3;go_wp2;go_ret2
  exact ⟨by rw [HF.out];rfl,⟨j,hj,(fun p hp=>by rw [HF.out] at hp;cases hp),HR3.out⟩,HB2.out.trans HB3.out⟩
 | some y=>
  rw [hx] at HX;have lG:Hid (∀ w,bO w→Pr w q l (i+1)→Calls Tryz.prog 251 #[bg q,.int .i64 4] w fun x w'=>x=.returned (.tuple #[.int .i32 (y:Nat),.bool true])∧(∃ j,j≤l.length∧(some y≠none→j=i+1+4)∧Pr w' q l j)∧But q w w'):=HX;have HF:=hid (show gQ lit (l.drop i)=some (y,5) by rw [oC.out,hx];rfl);clear HX oC hx;go_enter Tryz.func234,Tryz.ntmps234;go_wp2_with fail
  refine SK.out.mono ?_;rintro x w2 ⟨rfl,hr2,hb2⟩;have HR2:=hid hr2;have HB2:=hid hb2;clear hr2 hb2;go_wp2_with fail
  refine (lG.out _ (HE.out.but HB2.out hq) HR2.out).mono ?_;rintro x w3 ⟨rfl,⟨j,hj,hjj,hr3⟩,hb3⟩;have HR3:=hid hr3;have HB3:=hid hb3;have HJ:=hid (hjj (by simp));clear hr3 hb3 hjj;go_wp2;go_ret2
  exact ⟨by rw [HF.out];rfl,⟨j,hj,(fun p hp=>by rw [HF.out] at hp;cases hp;have:=HJ.out;show j=i+5;omega),HR3.out⟩,HB2.out.trans HB3.out⟩
theorem aa3 (q:Nat) (lit:Bool) (l t:List UInt8) (i:Nat) (w:World) (hE:bO w) (hq:q≠4) (hr:Pr w q l i) (hl:l.length≤100000000) (hi:i≤l.length) (hd:l.drop i=85::t) :
  Calls Tryz.prog 234 #[bg q,.bool lit] w (x9 q i l w (gQ lit (l.drop i))):=by
 obtain ⟨hjl,hget,dG⟩:=lJ l i 85 t hd;have SN:=hid (gY q l [117] i w hr hl hi (by decide) (by rw [hd];simp));have SK:=hid fun w hr=>mo q l [85] i w hr hl hi (by decide) (by rw [hd];rfl);have HX:=hid fun w h1 h2=>Oc q 8 l (i+1) w h1 (.inr rfl) h2 hl (by omega);rw [dG] at HX;have HE:=hid hE;have oC:=hid (show gQ lit (l.drop i)=(Tm.cB 8 t).map (fun x=>(x,9)) by rw [hd];rfl);clear hd hget dG hr hE;cases hx:Tm.cB 8 t with
 | none=>
  rw [hx] at HX;have lG:Hid (∀ w,bO w→Pr w q l (i+1)→Calls Tryz.prog 251 #[bg q,.int .i64 8] w fun x w'=>x=.returned (.tuple #[.int .i32 0,.bool false])∧(∃ j,j≤l.length∧((none:Option Nat)≠none→j=i+1+8)∧Pr w' q l j)∧But q w w'):=HX;have HF:=hid (show gQ lit (l.drop i)=none by rw [oC.out,hx];rfl);clear HX oC hx;go_enter Tryz.func234,Tryz.ntmps234;go_wp2_with fail
  refine SN.out.mono ?_;rintro x w1 ⟨rfl,hr1,hb1⟩;have HR1:=hid hr1;have HB1:=hid hb1;clear hr1 hb1;go_wp2_with fail
  refine (SK.out _ HR1.out).mono ?_;rintro x w2 ⟨rfl,hr2,hb2⟩;have HR2:=hid hr2;have HB2:=hid (HB1.out.trans hb2);clear hr2 hb2;go_wp2_with fail
  refine (lG.out _ (HE.out.but HB2.out hq) HR2.out).mono ?_;rintro x w3 ⟨rfl,⟨j,hj,_,hr3⟩,hb3⟩;have HR3:=hid hr3;have HB3:=hid hb3;clear hr3 hb3;go_wp2;go_ret2
  exact ⟨by rw [HF.out];rfl,⟨j,hj,(fun p hp=>by rw [HF.out] at hp;cases hp),HR3.out⟩,HB2.out.trans HB3.out⟩
 | some y=>
  rw [hx] at HX;have lG:Hid (∀ w,bO w→Pr w q l (i+1)→Calls Tryz.prog 251 #[bg q,.int .i64 8] w fun x w'=>x=.returned (.tuple #[.int .i32 (y:Nat),.bool true])∧(∃ j,j≤l.length∧(some y≠none→j=i+1+8)∧Pr w' q l j)∧But q w w'):=HX;have HF:=hid (show gQ lit (l.drop i)=some (y,9) by rw [oC.out,hx];rfl);clear HX oC hx;go_enter Tryz.func234,Tryz.ntmps234;go_wp2_with fail
  refine SN.out.mono ?_;rintro x w1 ⟨rfl,hr1,hb1⟩;have HR1:=hid hr1;have HB1:=hid hb1;clear hr1 hb1;go_wp2_with fail
  refine (SK.out _ HR1.out).mono ?_;rintro x w2 ⟨rfl,hr2,hb2⟩;have HR2:=hid hr2;have HB2:=hid (HB1.out.trans hb2);clear hr2 hb2;go_wp2_with fail
  refine (lG.out _ (HE.out.but HB2.out hq) HR2.out).mono ?_;rintro x w3 ⟨rfl,⟨j,hj,hjj,hr3⟩,hb3⟩;have HR3:=hid hr3;have HB3:=hid hb3;have HJ:=hid (hjj (by simp));clear hr3 hb3 hjj;go_wp2;go_ret2
  exact ⟨by rw [HF.out];rfl,⟨j,hj,(fun p hp=>by rw [HF.out] at hp;cases hp;have:=HJ.out;show j=i+9;omega),HR3.out⟩,HB2.out.trans HB3.out⟩
theorem Oe (q:Nat) (lit:Bool) (l:List UInt8) (i:Nat) (w:World) (hr:Pr w q l i) (hl:l.length≤100000000) (hi:i≤l.length) (h1:(l.drop i).take 1≠[117]) (h2:(l.drop i).take 1≠[85]) (hno:lit=false∨l.drop i=[]) :
  Calls Tryz.prog 234 #[bg q,.bool lit] w (x9 q i l w (gQ lit (l.drop i))):=by
 have SN:=hid (gY q l [117] i w hr hl hi (by decide) h1);have SK:=hid fun w hr=>gY q l [85] i w hr hl hi (by decide) h2;have HF:=hid (show gQ lit (l.drop i)=none by
  rcases hno with rfl | hno
  · cases hd:l.drop i with
    | nil=>rfl
    | cons c t=>rw [hd] at h1 h2;have g1:c≠117:=fun e=>h1 (by rw [e];rfl);have g2:c≠85:=fun e=>h2 (by rw [e];rfl);unfold gQ;simp only;rw [if_neg g1,if_neg g2];rfl
  · rw [hno];rfl)
 have hE:lit=false∨(lit=true∧i=l.length):=by rcases hno with h | h;{exact .inl h};{have:=Ba l i h;cases lit;{exact .inl rfl};{exact .inr ⟨rfl,by omega⟩}}
 clear hr h1 h2 hno;rcases hE with rfl | ⟨rfl,rfl⟩;all_goals
  go_enter Tryz.func234,Tryz.ntmps234
  go_wp2_with fail
  refine SN.out.mono ?_
  rintro x w1 ⟨rfl,hr1,hb1⟩
  have HR1:=hid hr1
  have HB1:=hid hb1
  clear hr1 hb1
  go_wp2_with fail
  refine (SK.out _ HR1.out).mono ?_
  rintro x w2 ⟨rfl,hr2,hb2⟩
  have HR2:=hid hr2
  have HB2:=hid (HB1.out.trans hb2)
  obtain ⟨c0,c1,f0,f1⟩:=HR2.out.cells
  clear hr2 hb2
  go_wp2
  go_quiet (fail)
  go_wp2
  go_ret2
  exact ⟨by rw [HF.out];rfl,⟨_,hi,(fun p hp=>by rw [HF.out] at hp;cases hp),HR2.out⟩,HB2.out.trans (But.drawn q w2 _)⟩
theorem aa4 (q:Nat) (l t:List UInt8) (c:UInt8) (i:Nat) (w:World) (hr:Pr w q l i) (hl:l.length≤100000000) (hi:i≤l.length) (hd:l.drop i=c::t) (g1:c≠117) (g2:c≠85) :
  Calls Tryz.prog 234 #[bg q,.bool true] w (x9 q i l w (gQ true (l.drop i))):=by
 obtain ⟨hjl,hget,dG⟩:=lJ l i c t hd;have SN:=hid (gY q l [117] i w hr hl hi (by decide) (by rw [hd];simpa using g1));have SK:=hid fun w hr=>gY q l [85] i w hr hl hi (by decide) (by rw [hd];simpa using g2);have HF:=hid (show gQ true (l.drop i)=(Tm.letter c).map (fun d=>(d.toNat,1)) by rw [hd];unfold gQ;simp only;rw [if_neg g1,if_neg g2];simp);have PS:=hid fun w=>aaP c w;have hcc:=fun q=>gG l i c hget q;have qj:(i:Int)<(l.length:Int):=by omega
 have hne:((i:Int)==(l.length:Int))=false:=beq_eq_false_iff_ne.2 (by omega);clear hr hd g1 g2 hget dG;cases hx:Tm.letter c;all_goals
  rw [hx] at PS HF
  unfold N9 at PS
  simp only at PS
  have HG:=hid HF.out
  clear HF hx
  go_enter Tryz.func234,Tryz.ntmps234
  go_wp2_with fail
  refine SN.out.mono ?_
  rintro x w1 ⟨rfl,hr1,hb1⟩
  have HR1:=hid hr1
  have HB1:=hid hb1
  clear hr1 hb1
  go_wp2_with fail
  refine (SK.out _ HR1.out).mono ?_
  rintro x w2 ⟨rfl,hr2,hb2⟩
  have HR2:=hid hr2
  have HB2:=hid (HB1.out.trans hb2)
  obtain ⟨c0,c1,f0,f1⟩:=HR2.out.cells
  clear hr2 hb2
  go_wp2
  go_quiet (fail)
  go_wp2
  go_quiet ((go_at_call 252;exact lV fun W hW=>PS.out W))
  go_wp2
  go_ret2
  refine ⟨by rw [HG.out];rfl,⟨i+1,hjl,(fun p hp=>by rw [HG.out] at hp;cases hp <;> rfl),Pr.to (w:=w2) HR2.out (i+1)⟩,(HB2.out.trans (But.drawn q w2 _)).trans ((But.set q _ 1 _).trans (But.drawn q _ _))⟩
theorem aa5 (q:Nat) (lit:Bool) (l:List UInt8) (i:Nat) (w:World) (hE:bO w) (hq:q≠4) (hr:Pr w q l i) (hl:l.length≤100000000) (hi:i≤l.length) :
  Calls Tryz.prog 234 #[bg q,.bool lit] w (x9 q i l w (gQ lit (l.drop i))):=by
 by_cases h1:(l.drop i).take 1=[117];{obtain ⟨t,hd⟩:=take_one h1;exact aa2 q lit l t i w hE hq hr hl hi hd}
 · by_cases h2:(l.drop i).take 1=[85];{obtain ⟨t,hd⟩:=take_one h2;exact aa3 q lit l t i w hE hq hr hl hi hd}
   · cases lit;{exact Oe q false l i w hr hl hi h1 h2 (.inl rfl)}
     · cases hd:l.drop i with
       | nil=>rw [←hd];exact Oe q true l i w hr hl hi h1 h2 (.inr hd)
       | cons c t=>rw [←hd];exact aa4 q l t c i w hr hl hi hd (fun e=>h1 (by rw [hd,e];rfl)) (fun e=>h2 (by rw [hd,e];rfl))
end Go.Proofs.YtjaebndajhppgaaGreatDoor
