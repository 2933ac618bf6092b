/-GPr3-/
import Derived.Test.YtjaebndajhppgaaGreatDoorMnGPr1
import Derived.Test.YtjaebndajhppgaaGreatDoorMnGLn1
import Derived.Test.YtjaebndajhppgaaGreatDoorMnGTm2
import Derived.Lib.ConvBytes
import Derived.Deep.RegionWith
import Derived.WalkMore
set_option linter.unusedVariables false
set_option linter.unusedSimpArgs false
set_option maxRecDepth 100000
set_option maxHeartbeats 4000000
namespace Go.Proofs.YtjaebndajhppgaaGreatDoor
open Go.ChangeShapes Go.WideShapes Go.ChangeAt Go.RowKit
theorem low_bits:∀ k:Fin 256,bits .or .u8 ((k.val:Nat):Int) 32=((k.val ||| 32:Nat):Int):=by decide
theorem low_facts:∀ k:Fin 256,(97≤k.val∧k.val≤102→k.val ||| 32=k.val)∧(65≤k.val∧k.val≤70→k.val ||| 32=k.val+32)∧((k.val<65∨(70<k.val∧k.val<97)∨102<k.val)→(k.val ||| 32<97∨102<k.val ||| 32))∧k.val ||| 32<256:=by decide
theorem ilow_any (c:UInt8) (w:World):Calls Tryz.prog 278 #[.int .u8 (c.toNat:Nat)] w fun e w'=>e=.returned (.int .u8 ((c.toNat ||| 32:Nat):Int))∧w'=w:=by
 have h:=low_bits ⟨c.toNat,c.toNat_lt⟩
 simp only at h
 have H:=hid h
 clear h
 go_enter Tryz.func278,Tryz.ntmps278
 go_wp2
 go_ret
 exact ⟨congrArg (fun z=>Ending.returned (.int .u8 z)) H.out,rfl⟩
def hexTup (r:Option Nat):Value:=match r with
 | none=>.tuple #[.int .u64 0,.iface 312 (.int .i64 2)]
 | some x=>.tuple #[.int .u64 (x:Nat),.nilIface]
theorem ipu_any (s:List UInt8) (w:World) (h0:0<s.length) (h8:s.length≤8) :
  Calls Tryz.prog 271 #[str s,.int .i64 16,.int .i64 32] w fun e w'=>e=.returned (hexTup (Tm.hexL s.length s 0))∧Below w.heap.size w w':=by
 have hsz:(⟨s.toArray⟩:ByteArray).size=s.length:=by simp [ByteArray.size]
 have hcv:=Lib.run_convert_string_bytes (P:=Tryz.prog) w 9 32 5 ⟨s.toArray⟩ (u:=.string) Tryz.underlying9 Tryz.underlying32 Tryz.underlying5
 have hB:∀ j,j<s.length→(Lib.bytesWorld w 5 ⟨s.toArray⟩).cell? ⟨w.heap.size,j,none⟩=some (.int .u8 (s.getD j 0).toNat):=fun j hj=>Lib.bytesWorld_cell w 5 ⟨s.toArray⟩ j (by rw [hsz];exact hj)
 have HBl:=hid (show Below w.heap.size w (Lib.bytesWorld w 5 ⟨s.toArray⟩) by
  exact ⟨rfl,rfl,rfl,by rw [Lib.bytesWorld_size];omega,fun i hi=>Lib.bytesWorld_at_old w 5 _ i hi⟩)
 rw [hsz] at hcv
 obtain ⟨W1,hW1⟩:∃ W1,W1=Lib.bytesWorld w 5 ⟨s.toArray⟩:=⟨_,rfl⟩
 rw [←hW1] at hcv hB HBl
 have hem:(s==[])=false:=by cases s with
  | nil=>simp at h0
  | cons _ _=>rfl
 obtain ⟨ANS,hA⟩:∃ a,a=Tm.hexL s.length s 0:=⟨_,rfl⟩
 rw [←hA]
 have HA:=hid (show ANS=Tm.hexL (s.length-0) (s.drop 0) 0 by rw [hA];rfl)
 have hLz:(s.length:Int)≤8:=by omega
 clear hA hW1
 go_enter Tryz.func271,Tryz.ntmps271
 go_wp2
 go_loop [12,13,101] (fun vu vn vi=>∃ (k acc:Nat) (a:Int),vu=.bool false∧vn=.int .u64 a∧vi=.int .i64 k∧k≤s.length∧Hid (a=(acc:Int)∧acc<16 ^ k∧ANS=Tm.hexL (s.length-k) (s.drop k) acc))
  (fun _ _ vi=>s.length-(intOf vi).toNat)
 case atStart=>exact ⟨0,0,0,rfl,rfl,rfl,by omega,rfl,by decide,HA.out⟩
 case round=>
  obtain ⟨k,acc,a,rfl,rfl,rfl,hk,hh⟩:=hrel
  obtain ⟨ha,hacc,hdec⟩:=hh.out
  clear hh
  have a0:0≤a:=by omega
  by_cases hkn:k<s.length
  · have hacc2:acc<268435456:=Nat.lt_of_lt_of_le hacc (pow16 k (by omega))
    have a1:a<268435456:=by omega
    have hc:=hB k hkn
    obtain ⟨c,hget⟩:∃ c,s[k]?=some c:=⟨_,List.getElem?_eq_getElem hkn⟩
    have hgd:s.getD k 0=c:=by rw [List.getD,hget];rfl
    rw [hgd] at hc
    have HST:=hid (hdec.trans ((congrArg (fun n=>Tm.hexL n (s.drop k) acc) (show s.length-k=s.length-(k+1)+1 by omega)).trans (hexL_step (s.length-(k+1)) s k acc c hget)))
    have LOW:=hid fun w=>ilow_any c w
    have hc256:c.toNat<256:=c.toNat_lt
    obtain ⟨f1,f2,f3,f4⟩:=low_facts ⟨c.toNat,hc256⟩
    simp only at f1 f2 f3 f4
    have HP:=hid (fun d (hd:d<16)=>show acc*16+d<16 ^ (k+1) by rw [Nat.pow_succ];omega)
    obtain ⟨lw,hlw⟩:∃ lw,lw=c.toNat ||| 32:=⟨_,rfl⟩
    rw [←hlw] at f1 f2 f3 f4 LOW
    clear hB hget hgd hdec hacc hlw
    rcases (show (c.toNat<48∨(57<c.toNat∧c.toNat<65)∨(70<c.toNat∧c.toNat<97)∨102<c.toNat)∨(48≤c.toNat∧c.toNat≤57)∨(97≤c.toNat∧c.toNat≤102)∨(65≤c.toNat∧c.toNat≤70) by omega) with h | ⟨h,h'⟩ | ⟨h,h'⟩ | ⟨h,h'⟩
    · have HF:=hid (show ANS=none by rw [HST.out,hexc_no h])
      have hlow:lw<97∨122<lw∨(102<lw∧lw≤122):=by
       have:=f3 (by omega);omega
      clear f1 f2 f3 HST HP ha
      rcases (show c.toNat<48∨(57<c.toNat∧c.toNat<65)∨(70<c.toNat∧c.toNat<95)∨(c.toNat=95∧70<c.toNat∧c.toNat<97)∨(95<c.toNat∧c.toNat<97)∨102<c.toNat by omega) with h | ⟨h,h'⟩ | ⟨h,h'⟩ | ⟨h,h',h''⟩ | ⟨h,h'⟩ | h
      case inr.inr.inr.inl=>
       have b1:((c.toNat:Int)==95)=true:=beq_iff_eq.2 (by omega)
       clear h
       rcases hlow with g | g | ⟨g,g'⟩
       all_goals
        go_wp2_with (go_at_call 278;refine (LOW.out _).mono ?_;rintro e w' ⟨rfl,hww⟩;have hw2:=hww.symm;subst hw2)
        go_ret2
        exact ⟨by rw [HF.out];rfl,HBl.out⟩
      all_goals
       rcases hlow with g | g | ⟨g,g'⟩
       all_goals
        go_wp2_with (go_at_call 278;refine (LOW.out _).mono ?_;rintro e w' ⟨rfl,hww⟩;have hw2:=hww.symm;subst hw2)
        go_ret2
        exact ⟨by rw [HF.out];rfl,HBl.out⟩
    · have HF:Hid (a*16+((c.toNat:Int)-48)=((acc*16+(c.toNat-48):Nat):Int)∧acc*16+(c.toNat-48)<16 ^ (k+1)∧ANS=Tm.hexL (s.length-(k+1)) (s.drop (k+1)) (acc*16+(c.toNat-48))):=hid ⟨by omega,HP.out _ (by omega),by rw [HST.out,hexc_dig ⟨h,h'⟩]⟩
      clear f1 f2 f3 HST HP ha
      go_wp2
      refine ⟨⟨k+1,acc*16+(c.toNat-48),a*16+((c.toNat:Int)-48),rfl,(by first | rfl | (congr 1;omega)),(by first | rfl | (congr 1;omega)),by omega,HF⟩,by simp [intOf];omega⟩
    · have HF:Hid (a*16+((lw:Int)-87)=((acc*16+(c.toNat-87):Nat):Int)∧acc*16+(c.toNat-87)<16 ^ (k+1)∧ANS=Tm.hexL (s.length-(k+1)) (s.drop (k+1)) (acc*16+(c.toNat-87))):=hid ⟨by have:=f1 ⟨h,h'⟩;omega,HP.out _ (by omega),by rw [HST.out,hexc_low ⟨h,h'⟩]⟩
      have g:97≤lw∧lw≤102:=by have:=f1 ⟨h,h'⟩;omega
      obtain ⟨g,g'⟩:=g
      clear f1 f2 f3 HST HP ha
      go_wp2_with (go_at_call 278;refine (LOW.out _).mono ?_;rintro e w' ⟨rfl,hww⟩;have hw2:=hww.symm;subst hw2)
      refine ⟨⟨k+1,acc*16+(c.toNat-87),a*16+((lw:Int)-87),rfl,(by first | rfl | (congr 1;omega)),(by first | rfl | (congr 1;omega)),by omega,HF⟩,by simp [intOf];omega⟩
    · have HF:Hid (a*16+((lw:Int)-87)=((acc*16+(c.toNat-55):Nat):Int)∧acc*16+(c.toNat-55)<16 ^ (k+1)∧ANS=Tm.hexL (s.length-(k+1)) (s.drop (k+1)) (acc*16+(c.toNat-55))):=hid ⟨by have:=f2 ⟨h,h'⟩;omega,HP.out _ (by omega),by rw [HST.out,hexc_cap ⟨h,h'⟩]⟩
      have g:97≤lw∧lw≤102:=by have:=f2 ⟨h,h'⟩;omega
      obtain ⟨g,g'⟩:=g
      clear f1 f2 f3 HST HP ha
      go_wp2_with (go_at_call 278;refine (LOW.out _).mono ?_;rintro e w' ⟨rfl,hww⟩;have hw2:=hww.symm;subst hw2)
      refine ⟨⟨k+1,acc*16+(c.toNat-55),a*16+((lw:Int)-87),rfl,(by first | rfl | (congr 1;omega)),(by first | rfl | (congr 1;omega)),by omega,HF⟩,by simp [intOf];omega⟩
  · obtain rfl:k=s.length:=by omega
    have HF:=hid (show ANS=some acc by rw [hdec,Nat.sub_self];rfl)
    subst ha
    clear hB hdec hacc
    go_wp2
    go_ret2
    exact ⟨by rw [HF.out];rfl,HBl.out⟩
end Go.Proofs.YtjaebndajhppgaaGreatDoor
namespace Go.Proofs.YtjaebndajhppgaaGreatDoor
open Go.ChangeShapes Go.WideShapes Go.ChangeAt Go.RowKit
def ErrAt (w:World):Prop:=∃ ev,w.cell? ⟨4,0,none⟩=some ev∧(ev=.nilIface∨∃ te pe,ev=.iface te pe)
theorem ErrAt.keep {w w':World} (h:ErrAt w) (hb:Below w.heap.size w w'):ErrAt w':=by
 obtain ⟨ev,h1,h2⟩:=h
 exact ⟨ev,(hb.cell (lt_of_cell h1)).trans h1,h2⟩
theorem ErrAt.but {q:Nat} {w w':World} (h:ErrAt w) (hb:But q w w') (hq:q≠4):ErrAt w':=by
 obtain ⟨ev,h1,h2⟩:=h
 have hk:=hb.block 4 (lt_of_cell h1) (by simpa using fun e=>hq e.symm)
 refine ⟨ev,?_,h2⟩
 rw [←h1]
 simp only [World.cell?,hk]
theorem hexL_take:∀ (n:Nat) (s:List UInt8) (x:Nat),n≤s.length→Tm.hexL (s.take n).length (s.take n) x=Tm.hexL n s x
 | 0,s,x,_=>by simp [Tm.hexL]
 | n+1,[],x,h=>by simp at h
 | n+1,c::t,x,h=>by
  simp only [List.length_cons] at h
  rw [List.take_succ_cons,List.length_cons]
  unfold Tm.hexL
  cases Tm.hexc c with
  | none=>rfl
  | some d=>exact hexL_take n t _ (by omega)
theorem hexL_lt:∀ (n:Nat) (s:List UInt8) (x y:Nat),Tm.hexL n s x=some y→y<(x+1)*16 ^ n
 | 0,s,x,y,h=>by
  unfold Tm.hexL at h;simp only [Option.some.injEq] at h;omega
 | n+1,[],x,y,h=>by unfold Tm.hexL at h;cases h
 | n+1,c::t,x,y,h=>by
  unfold Tm.hexL at h
  cases hc:Tm.hexc c with
  | none=>rw [hc] at h;cases h
  | some d=>
   rw [hc] at h
   have h2:=hexL_lt n t _ y h
   have hd:d<16:=by
    unfold Tm.hexc at hc
    split at hc
    · simp only [Option.some.injEq] at hc;omega
    · split at hc
      · simp only [Option.some.injEq] at hc;omega
      · split at hc
        · simp only [Option.some.injEq] at hc;omega
        · cases hc
   rw [Nat.pow_succ,Nat.mul_comm (16 ^ n) 16,←Nat.mul_assoc]
   exact Nat.lt_of_lt_of_le h2 (Nat.mul_le_mul_right _ (by omega))
theorem spu_some (s:List UInt8) (x:Nat) (w:World) (h0:0<s.length) (h8:s.length≤8) (hx:Tm.hexL s.length s 0=some x) :
  Calls Tryz.prog 260 #[str s,.int .i64 16,.int .i64 32] w fun e w'=>e=.returned (.tuple #[.int .u64 (x:Nat),.nilIface])∧Below w.heap.size w w':=by
 have IP:=hid fun w=>ipu_any s w h0 h8
 rw [hx] at IP
 have IP2:Hid (∀ w,Calls Tryz.prog 271 #[str s,.int .i64 16,.int .i64 32] w fun e w'=>e=.returned (.tuple #[.int .u64 (x:Nat),.nilIface])∧Below w.heap.size w w'):=IP
 clear IP
 go_enter Tryz.func260,Tryz.ntmps260
 go_wp2_with fail
 refine (IP2.out _).mono ?_
 rintro e w2 ⟨rfl,hb⟩
 have HB:=hid hb
 clear hb
 go_wp2
 go_ret2
 exact ⟨rfl,HB.out⟩
theorem spu_none (s:List UInt8) (w:World) (hE:ErrAt w) (h0:0<s.length) (h8:s.length≤8) (hx:Tm.hexL s.length s 0=none) :
  Calls Tryz.prog 260 #[str s,.int .i64 16,.int .i64 32] w fun e w'=>(∃ t a,e=.returned (.tuple #[.int .u64 0,.iface t (.pointer (some a))]))∧Below w.heap.size w w':=by
 have IP:=hid fun w=>ipu_any s w h0 h8
 rw [hx] at IP
 have IP2:Hid (∀ w,Calls Tryz.prog 271 #[str s,.int .i64 16,.int .i64 32] w fun e w'=>e=.returned (.tuple #[.int .u64 0,.iface 312 (.int .i64 2)])∧Below w.heap.size w w'):=IP
 have HE:=hid hE
 clear IP hE
 go_enter Tryz.func260,Tryz.ntmps260
 go_wp2_with fail
 refine (IP2.out _).mono ?_
 rintro e w2 ⟨rfl,hb⟩
 have HB:=hid hb
 obtain ⟨ev,k1,k2⟩:=HE.out.keep hb
 have TE:=hid fun fn=>Tryz.strconv_toError_syntax fn ⟨s.toArray⟩ 16 32 ev w2 (by simp [ByteArray.size];omega) k1 k2
 clear hb k1 k2
 go_wp2_with fail
 refine (TE.out _).mono ?_
 rintro e w3 ⟨N,rfl,_,_,hb⟩
 have HB3:=hid (below_then HB.out hb)
 clear hb
 go_wp2
 go_ret2
 exact ⟨⟨_,_,rfl⟩,HB3.out⟩
def runeV (r:Option Nat):Value:=match r with
 | some x=>.tuple #[.int .i32 (x:Nat),.bool true]
 | none=>.tuple #[.int .i32 0,.bool false]
theorem vrune_any (x:Nat) (hx:x≤1114111) (w:World):Calls Tryz.prog 261 #[.int .i32 (x:Nat)] w fun e w'=>e=.returned (.bool (decide (¬ (55296≤x∧x≤57343))))∧w'=w:=by
 have h:=Tryz.utf8_ValidRune (x:Int) w
 have hv:Lib.validRune (x:Int)=decide (¬ (55296≤x∧x≤57343)):=by
  unfold Lib.validRune
  rw [Bool.eq_iff_iff]
  simp only [decide_eq_true_eq]
  omega
 rw [hv] at h
 exact h
end Go.Proofs.YtjaebndajhppgaaGreatDoor
namespace Go.Proofs.YtjaebndajhppgaaGreatDoor
open Go.ChangeShapes Go.WideShapes Go.ChangeAt Go.RowKit
theorem phex_short (q n:Nat) (l:List UInt8) (i:Nat) (w:World) (hE:ErrAt w) (hn:n=4∨n=8) (hr:Pr w q l i) (hl:l.length≤100000000) (hi:i≤l.length) (hs:l.length<i+n) :
  Calls Tryz.prog 251 #[rdp q,.int .i64 (n:Nat)] w fun x w'=>x=.returned (runeV (Tm.hexR n (l.drop i)))∧(∃ j,j≤l.length∧(Tm.hexR n (l.drop i)≠none→j=i+n)∧Pr w' q l j)∧But q w w':=by
 obtain ⟨c0,c1,f0,f1⟩:=hr.cells
 have HR:=hid hr
 have HE:=hid hE
 have hiI:(i:Int)≤(l.length:Int):=by omega
 have hn8:n≤8:=by omega
 have hn0:0<n:=by omega
 clear hr hE
 have HN:=hid (show Tm.hexR n (l.drop i)=none by unfold Tm.hexR;rw [hexL_short n _ 0 (by rw [List.length_drop];omega)])
 have hz:decide ((l.length:Int)-(i:Int)<(n:Int))=true:=decide_eq_true (by omega)
 clear hn hs
 go_enter Tryz.func251,Tryz.ntmps251
 go_wp2
 go_quiet (fail)
 go_wp2
 go_ret2
 exact ⟨by rw [HN.out];rfl,⟨i,hi,fun h=>absurd HN.out h,HR.out⟩,But.drawn q w _⟩
theorem phex_none (q n:Nat) (l:List UInt8) (i:Nat) (w:World) (hE:ErrAt w) (hn:n=4∨n=8) (hr:Pr w q l i) (hl:l.length≤100000000) (hi:i≤l.length) (hs:¬ l.length<i+n) (hx:Tm.hexL n (l.drop i) 0=none) :
  Calls Tryz.prog 251 #[rdp q,.int .i64 (n:Nat)] w fun x w'=>x=.returned (runeV (Tm.hexR n (l.drop i)))∧(∃ j,j≤l.length∧(Tm.hexR n (l.drop i)≠none→j=i+n)∧Pr w' q l j)∧But q w w':=by
 obtain ⟨c0,c1,f0,f1⟩:=hr.cells
 have HR:=hid hr
 have HE:=hid hE
 have hiI:(i:Int)≤(l.length:Int):=by omega
 have hn8:n≤8:=by omega
 have hn0:0<n:=by omega
 clear hr hE
 have hdl:n≤(l.drop i).length:=by rw [List.length_drop];omega
 have htl:((l.drop i).take n).length=n:=by rw [List.length_take];omega
 obtain ⟨m,hm⟩:∃ m,m=i+n:=⟨_,rfl⟩
 have hex:(⟨l.toArray⟩:ByteArray).extract i m=⟨((l.drop i).take n).toArray⟩:=by
  rw [hm,ba_extract];congr 3;omega
 have hw:IntKind.i64.wrap ((i:Int)+(n:Int))=(m:Int):=by rw [IntKind.wrap_i64];omega
 have him:i≤m:=by omega
 have hml:m≤l.length:=by omega
 have hmz:(i:Int)≤(m:Int):=by omega
 have hmz2:(m:Int)≤(l.length:Int):=by omega
 have hz:decide ((l.length:Int)-(i:Int)<(n:Int))=false:=decide_eq_false (by omega)
 have HM:=hid hm
 have HN:=hid (show Tm.hexR n (l.drop i)=none by unfold Tm.hexR;rw [hx])
 have SP:=hid fun w h=>spu_none ((l.drop i).take n) w h (by omega) (by omega) (by rw [htl,←hx,←hexL_take n _ 0 hdl,htl])
 clear hn hs hx hdl htl hm
 go_enter Tryz.func251,Tryz.ntmps251
 go_wp2
 go_quiet (fail)
 go_wp2
 go_region_with ((go_at_call 260;refine (SP.out _ (show ErrAt (w.drewN (nq+1)) from HE.out)).mono ?_;rintro e w2 ⟨⟨t,a,rfl⟩,hb⟩;have HR2:Hid (Pr w2 q l i):=hid (by refine Pr.keep ?_ hb;exact HR.out);have HC2:=HR2.out.cells;obtain ⟨d0,d1,g0,g1⟩:=HC2))
 all_goals
  go_wp2
  go_ret2
  exact ⟨by rw [HN.out];rfl,⟨m,hml,fun h=>absurd HN.out h,HR2.out.to _⟩,(But.below (below_then (below_drawn (Below.refl w.heap.size w) _) hb)).trans (But.set q _ 1 _)⟩
theorem phex_some (q n:Nat) (l:List UInt8) (i:Nat) (w:World) (hE:ErrAt w) (hn:n=4∨n=8) (hr:Pr w q l i) (hl:l.length≤100000000) (hi:i≤l.length) (x:Nat) (hs:¬ l.length<i+n) (hx:Tm.hexL n (l.drop i) 0=some x) :
  Calls Tryz.prog 251 #[rdp q,.int .i64 (n:Nat)] w fun x w'=>x=.returned (runeV (Tm.hexR n (l.drop i)))∧(∃ j,j≤l.length∧(Tm.hexR n (l.drop i)≠none→j=i+n)∧Pr w' q l j)∧But q w w':=by
 obtain ⟨c0,c1,f0,f1⟩:=hr.cells
 have HR:=hid hr
 have HE:=hid hE
 have hiI:(i:Int)≤(l.length:Int):=by omega
 have hn8:n≤8:=by omega
 have hn0:0<n:=by omega
 clear hr hE
 have hdl:n≤(l.drop i).length:=by rw [List.length_drop];omega
 have htl:((l.drop i).take n).length=n:=by rw [List.length_take];omega
 obtain ⟨m,hm⟩:∃ m,m=i+n:=⟨_,rfl⟩
 have hex:(⟨l.toArray⟩:ByteArray).extract i m=⟨((l.drop i).take n).toArray⟩:=by
  rw [hm,ba_extract];congr 3;omega
 have hw:IntKind.i64.wrap ((i:Int)+(n:Int))=(m:Int):=by rw [IntKind.wrap_i64];omega
 have him:i≤m:=by omega
 have hml:m≤l.length:=by omega
 have hmz:(i:Int)≤(m:Int):=by omega
 have hmz2:(m:Int)≤(l.length:Int):=by omega
 have hz:decide ((l.length:Int)-(i:Int)<(n:Int))=false:=decide_eq_false (by omega)
 have HM:=hid hm
 have hxl:=hexL_lt n _ 0 x hx
 have hx32:x<4294967296:=by
  have h1:=Nat.pow_le_pow_right (show 0<16 by omega) hn8
  have h2:(16:Nat) ^ 8=4294967296:=by decide
  omega
 have SP:=hid fun w=>spu_some ((l.drop i).take n) x w (by omega) (by omega) (by rw [htl,←hx,←hexL_take n _ 0 hdl,htl])
 have HX:=hid hx
 have VR:=hid fun h w=>vrune_any x h w
 clear hn hs hx hdl htl hm hxl
 rcases (show 1114111<x∨(x≤1114111∧(55296≤x∧x≤57343))∨(x≤1114111∧¬ (55296≤x∧x≤57343)) by omega) with h | ⟨h,h'⟩ | ⟨h,h'⟩
 · have HN:=hid (show Tm.hexR n (l.drop i)=none by unfold Tm.hexR;rw [HX.out];simp only;rw [if_pos (.inl h)])
   go_enter Tryz.func251,Tryz.ntmps251
   go_wp2
   go_quiet (fail)
   go_wp2
   go_region_with ((go_at_call 260;refine (SP.out (w.drewN (nq+1))).mono ?_;rintro e w2 ⟨rfl,hb⟩;have HR2:Hid (Pr w2 q l i):=hid (by refine Pr.keep ?_ hb;exact HR.out);have HC2:=HR2.out.cells;obtain ⟨d0,d1,g0,g1⟩:=HC2))
   all_goals
    go_wp2
    go_ret2
    exact ⟨by rw [HN.out];rfl,⟨m,hml,fun h=>absurd HN.out h,HR2.out.to _⟩,(But.below (below_then (below_drawn (Below.refl w.heap.size w) _) hb)).trans (But.set q _ 1 _)⟩
 · have HN:=hid (show Tm.hexR n (l.drop i)=none by unfold Tm.hexR;rw [HX.out];simp only;rw [if_pos (.inr h')])
   have VR2:=hid (VR.out h)
   rw [decide_eq_false (by omega)] at VR2
   clear h'
   go_enter Tryz.func251,Tryz.ntmps251
   go_wp2
   go_quiet (fail)
   go_wp2
   go_region_with ((go_at_call 260;refine (SP.out (w.drewN (nq+1))).mono ?_;rintro e w2 ⟨rfl,hb⟩;have HR2:Hid (Pr w2 q l i):=hid (by refine Pr.keep ?_ hb;exact HR.out);have HC2:=HR2.out.cells;obtain ⟨d0,d1,g0,g1⟩:=HC2))
   all_goals
    go_wp2_with (go_at_call 261;refine (VR2.out _).mono ?_;rintro e w' ⟨rfl,hww⟩;have hw2:=hww.symm;subst hw2)
    go_ret2
    exact ⟨by rw [HN.out];rfl,⟨m,hml,fun h=>absurd HN.out h,HR2.out.to _⟩,(But.below (below_then (below_drawn (Below.refl w.heap.size w) _) hb)).trans (But.set q _ 1 _)⟩
 · have HN:=hid (show Tm.hexR n (l.drop i)=some x by unfold Tm.hexR;rw [HX.out];simp only;rw [if_neg (by omega)])
   have VR2:=hid (VR.out h)
   rw [decide_eq_true (by omega)] at VR2
   clear h'
   go_enter Tryz.func251,Tryz.ntmps251
   go_wp2
   go_quiet (fail)
   go_wp2
   go_region_with ((go_at_call 260;refine (SP.out (w.drewN (nq+1))).mono ?_;rintro e w2 ⟨rfl,hb⟩;have HR2:Hid (Pr w2 q l i):=hid (by refine Pr.keep ?_ hb;exact HR.out);have HC2:=HR2.out.cells;obtain ⟨d0,d1,g0,g1⟩:=HC2))
   all_goals
    go_wp2_with (go_at_call 261;refine (VR2.out _).mono ?_;rintro e w' ⟨rfl,hww⟩;have hw2:=hww.symm;subst hw2)
    go_ret2
    exact ⟨by rw [HN.out];rfl,⟨m,hml,fun _=>HM.out,HR2.out.to _⟩,(But.below (below_then (below_drawn (Below.refl w.heap.size w) _) hb)).trans (But.set q _ 1 _)⟩
end Go.Proofs.YtjaebndajhppgaaGreatDoor
namespace Go.Proofs.YtjaebndajhppgaaGreatDoor
open Go.ChangeShapes Go.WideShapes Go.ChangeAt Go.RowKit
theorem phex_any (q n:Nat) (l:List UInt8) (i:Nat) (w:World) (hE:ErrAt w) (hn:n=4∨n=8) (hr:Pr w q l i) (hl:l.length≤100000000) (hi:i≤l.length) :
  Calls Tryz.prog 251 #[rdp q,.int .i64 (n:Nat)] w fun x w'=>x=.returned (runeV (Tm.hexR n (l.drop i)))∧(∃ j,j≤l.length∧(Tm.hexR n (l.drop i)≠none→j=i+n)∧Pr w' q l j)∧But q w w':=by
 by_cases hs:l.length<i+n
 · exact phex_short q n l i w hE hn hr hl hi hs
 · cases hx:Tm.hexL n (l.drop i) 0 with
   | none=>exact phex_none q n l i w hE hn hr hl hi hs hx
   | some x=>exact phex_some q n l i w hE hn hr hl hi x hs hx
def escR (lit:Bool) (s:List UInt8):Option (Nat×Nat):=match s with
 | []=>none
 | c::t=>if c=117 then (Tm.hexR 4 t).map (fun x=>(x,5)) else if c=85 then (Tm.hexR 8 t).map (fun x=>(x,9)) else if lit then (Tm.letter c).map (fun d=>(d.toNat,1)) else none
theorem letter_small {c d:UInt8} (h:Tm.letter c=some d):d.toNat<128:=by
 unfold Tm.letter at h
 repeat (first | (split at h;· (simp only [Option.some.injEq] at h;subst h;decide)) | cases h)
theorem runeT_small:∀ k:Fin 128,Tm.runeT k.val=[UInt8.ofNat k.val]:=by decide
theorem esc1_escR (lit:Bool) (s:List UInt8):Tm.esc1 lit s=(escR lit s).map fun p=>(Tm.runeT p.1,p.2):=by
 cases s with
 | nil=>rfl
 | cons c t=>
  have e0:Tm.esc1 lit (c::t)=if c=117 then (Tm.hexR 4 t).map (fun x=>(Tm.runeT x,5)) else if c=85 then (Tm.hexR 8 t).map (fun x=>(Tm.runeT x,9)) else if lit then (Tm.letter c).map (fun d=>([d],1)) else none:=rfl
  rw [e0]
  unfold escR
  simp only
  split
  · rw [Option.map_map];rfl
  · split
    · rw [Option.map_map];rfl
    · split
      · cases h:Tm.letter c with
        | none=>rfl
        | some d=>
         have h2:=runeT_small ⟨d.toNat,letter_small h⟩
         simp only at h2
         simp only [Option.map_some]
         rw [h2,UInt8.ofNat_toNat]
      · rfl
theorem pskip_is (q:Nat) (l p:List UInt8) (i:Nat) (w:World) (hr:Pr w q l i) (hl:l.length≤100000000) (hi:i≤l.length) (hp:p.length≤1000) (h:(l.drop i).take p.length=p) :
  Calls Tryz.prog 174 #[rdp q,str p] w fun x w'=>x=.returned (.bool true)∧Pr w' q l (i+p.length)∧But q w w':=by
 have:=pskip_any q l p i w hr hl hi hp
 rw [decide_eq_true h,if_pos h] at this
 exact this
theorem pskip_not (q:Nat) (l p:List UInt8) (i:Nat) (w:World) (hr:Pr w q l i) (hl:l.length≤100000000) (hi:i≤l.length) (hp:p.length≤1000) (h:(l.drop i).take p.length≠p) :
  Calls Tryz.prog 174 #[rdp q,str p] w fun x w'=>x=.returned (.bool false)∧Pr w' q l i∧But q w w':=by
 have:=pskip_any q l p i w hr hl hi hp
 rw [decide_eq_false h,if_neg h] at this
 exact this
theorem take_one {s:List UInt8} {c:UInt8} (h:s.take 1=[c]):∃ t,s=c::t:=by
 cases s with
 | nil=>cases h
 | cons d t=>
  simp only [List.take_succ_cons,List.take_zero,List.cons.injEq,and_true] at h
  exact ⟨t,by rw [h]⟩
def PEscPost (q i:Nat) (l:List UInt8) (w:World) (r:Option (Nat×Nat)) (x:Ending) (w':World):Prop:=
 x=.returned (runeV (r.map (·.1)))∧(∃ j,j≤l.length∧(∀ p,r=some p→j=i+p.2)∧Pr w' q l j)∧But q w w'
theorem pesc_u (q:Nat) (lit:Bool) (l t:List UInt8) (i:Nat) (w:World) (hE:ErrAt w) (hq:q≠4) (hr:Pr w q l i) (hl:l.length≤100000000) (hi:i≤l.length) (hd:l.drop i=117::t) :
  Calls Tryz.prog 234 #[rdp q,.bool lit] w (PEscPost q i l w (escR lit (l.drop i))):=by
 obtain ⟨hjl,hget,hdu⟩:=drop_get l i 117 t hd
 have SK:=hid (pskip_is q l [117] i w hr hl hi (by decide) (by rw [hd];rfl))
 have HX:=hid fun w h1 h2=>phex_any q 4 l (i+1) w h1 (.inl rfl) h2 hl (by omega)
 rw [hdu] at HX
 have HE:=hid hE
 have HEs:=hid (show escR lit (l.drop i)=(Tm.hexR 4 t).map (fun x=>(x,5)) by rw [hd];rfl)
 clear hd hget hdu hr hE
 cases hx:Tm.hexR 4 t with
 | none=>
  rw [hx] at HX
  have HX2:Hid (∀ w,ErrAt w→Pr w q l (i+1)→Calls Tryz.prog 251 #[rdp q,.int .i64 4] w fun x w'=>x=.returned (.tuple #[.int .i32 0,.bool false])∧(∃ j,j≤l.length∧((none:Option Nat)≠none→j=i+1+4)∧Pr w' q l j)∧But q w w'):=HX
  have HF:=hid (show escR lit (l.drop i)=none by rw [HEs.out,hx];rfl)
  clear HX HEs hx
  go_enter Tryz.func234,Tryz.ntmps234
  go_wp2_with fail
  refine SK.out.mono ?_
  rintro x w2 ⟨rfl,hr2,hb2⟩
  have HR2:=hid hr2
  have HB2:=hid hb2
  clear hr2 hb2
  go_wp2_with fail
  refine (HX2.out _ (HE.out.but HB2.out hq) HR2.out).mono ?_
  rintro x w3 ⟨rfl,⟨j,hj,_,hr3⟩,hb3⟩
  have HR3:=hid hr3
  have HB3:=hid hb3
  clear hr3 hb3
  go_wp2
  go_ret2
  exact ⟨by rw [HF.out];rfl,⟨j,hj,(fun p hp=>by rw [HF.out] at hp;cases hp),HR3.out⟩,HB2.out.trans HB3.out⟩
 | some y=>
  rw [hx] at HX
  have HX2:Hid (∀ w,ErrAt w→Pr w q l (i+1)→Calls Tryz.prog 251 #[rdp q,.int .i64 4] w fun x w'=>x=.returned (.tuple #[.int .i32 (y:Nat),.bool true])∧(∃ j,j≤l.length∧(some y≠none→j=i+1+4)∧Pr w' q l j)∧But q w w'):=HX
  have HF:=hid (show escR lit (l.drop i)=some (y,5) by rw [HEs.out,hx];rfl)
  clear HX HEs hx
  go_enter Tryz.func234,Tryz.ntmps234
  go_wp2_with fail
  refine SK.out.mono ?_
  rintro x w2 ⟨rfl,hr2,hb2⟩
  have HR2:=hid hr2
  have HB2:=hid hb2
  clear hr2 hb2
  go_wp2_with fail
  refine (HX2.out _ (HE.out.but HB2.out hq) HR2.out).mono ?_
  rintro x w3 ⟨rfl,⟨j,hj,hjj,hr3⟩,hb3⟩
  have HR3:=hid hr3
  have HB3:=hid hb3
  have HJ:=hid (hjj (by simp))
  clear hr3 hb3 hjj
  go_wp2
  go_ret2
  exact ⟨by rw [HF.out];rfl,⟨j,hj,(fun p hp=>by rw [HF.out] at hp;cases hp;have:=HJ.out;show j=i+5;omega),HR3.out⟩,HB2.out.trans HB3.out⟩
theorem pesc_cap (q:Nat) (lit:Bool) (l t:List UInt8) (i:Nat) (w:World) (hE:ErrAt w) (hq:q≠4) (hr:Pr w q l i) (hl:l.length≤100000000) (hi:i≤l.length) (hd:l.drop i=85::t) :
  Calls Tryz.prog 234 #[rdp q,.bool lit] w (PEscPost q i l w (escR lit (l.drop i))):=by
 obtain ⟨hjl,hget,hdu⟩:=drop_get l i 85 t hd
 have SN:=hid (pskip_not q l [117] i w hr hl hi (by decide) (by rw [hd];simp))
 have SK:=hid fun w hr=>pskip_is q l [85] i w hr hl hi (by decide) (by rw [hd];rfl)
 have HX:=hid fun w h1 h2=>phex_any q 8 l (i+1) w h1 (.inr rfl) h2 hl (by omega)
 rw [hdu] at HX
 have HE:=hid hE
 have HEs:=hid (show escR lit (l.drop i)=(Tm.hexR 8 t).map (fun x=>(x,9)) by rw [hd];rfl)
 clear hd hget hdu hr hE
 cases hx:Tm.hexR 8 t with
 | none=>
  rw [hx] at HX
  have HX2:Hid (∀ w,ErrAt w→Pr w q l (i+1)→Calls Tryz.prog 251 #[rdp q,.int .i64 8] w fun x w'=>x=.returned (.tuple #[.int .i32 0,.bool false])∧(∃ j,j≤l.length∧((none:Option Nat)≠none→j=i+1+8)∧Pr w' q l j)∧But q w w'):=HX
  have HF:=hid (show escR lit (l.drop i)=none by rw [HEs.out,hx];rfl)
  clear HX HEs hx
  go_enter Tryz.func234,Tryz.ntmps234
  go_wp2_with fail
  refine SN.out.mono ?_
  rintro x w1 ⟨rfl,hr1,hb1⟩
  have HR1:=hid hr1
  have HB1:=hid hb1
  clear hr1 hb1
  go_wp2_with fail
  refine (SK.out _ HR1.out).mono ?_
  rintro x w2 ⟨rfl,hr2,hb2⟩
  have HR2:=hid hr2
  have HB2:=hid (HB1.out.trans hb2)
  clear hr2 hb2
  go_wp2_with fail
  refine (HX2.out _ (HE.out.but HB2.out hq) HR2.out).mono ?_
  rintro x w3 ⟨rfl,⟨j,hj,_,hr3⟩,hb3⟩
  have HR3:=hid hr3
  have HB3:=hid hb3
  clear hr3 hb3
  go_wp2
  go_ret2
  exact ⟨by rw [HF.out];rfl,⟨j,hj,(fun p hp=>by rw [HF.out] at hp;cases hp),HR3.out⟩,HB2.out.trans HB3.out⟩
 | some y=>
  rw [hx] at HX
  have HX2:Hid (∀ w,ErrAt w→Pr w q l (i+1)→Calls Tryz.prog 251 #[rdp q,.int .i64 8] w fun x w'=>x=.returned (.tuple #[.int .i32 (y:Nat),.bool true])∧(∃ j,j≤l.length∧(some y≠none→j=i+1+8)∧Pr w' q l j)∧But q w w'):=HX
  have HF:=hid (show escR lit (l.drop i)=some (y,9) by rw [HEs.out,hx];rfl)
  clear HX HEs hx
  go_enter Tryz.func234,Tryz.ntmps234
  go_wp2_with fail
  refine SN.out.mono ?_
  rintro x w1 ⟨rfl,hr1,hb1⟩
  have HR1:=hid hr1
  have HB1:=hid hb1
  clear hr1 hb1
  go_wp2_with fail
  refine (SK.out _ HR1.out).mono ?_
  rintro x w2 ⟨rfl,hr2,hb2⟩
  have HR2:=hid hr2
  have HB2:=hid (HB1.out.trans hb2)
  clear hr2 hb2
  go_wp2_with fail
  refine (HX2.out _ (HE.out.but HB2.out hq) HR2.out).mono ?_
  rintro x w3 ⟨rfl,⟨j,hj,hjj,hr3⟩,hb3⟩
  have HR3:=hid hr3
  have HB3:=hid hb3
  have HJ:=hid (hjj (by simp))
  clear hr3 hb3 hjj
  go_wp2
  go_ret2
  exact ⟨by rw [HF.out];rfl,⟨j,hj,(fun p hp=>by rw [HF.out] at hp;cases hp;have:=HJ.out;show j=i+9;omega),HR3.out⟩,HB2.out.trans HB3.out⟩
theorem pesc_none (q:Nat) (lit:Bool) (l:List UInt8) (i:Nat) (w:World) (hr:Pr w q l i) (hl:l.length≤100000000) (hi:i≤l.length) (h1:(l.drop i).take 1≠[117]) (h2:(l.drop i).take 1≠[85]) (hno:lit=false∨l.drop i=[]) :
  Calls Tryz.prog 234 #[rdp q,.bool lit] w (PEscPost q i l w (escR lit (l.drop i))):=by
 have SN:=hid (pskip_not q l [117] i w hr hl hi (by decide) h1)
 have SK:=hid fun w hr=>pskip_not q l [85] i w hr hl hi (by decide) h2
 have HF:=hid (show escR lit (l.drop i)=none by
  rcases hno with rfl | hno
  · cases hd:l.drop i with
    | nil=>rfl
    | cons c t=>
     rw [hd] at h1 h2
     have g1:c≠117:=fun e=>h1 (by rw [e];rfl)
     have g2:c≠85:=fun e=>h2 (by rw [e];rfl)
     unfold escR
     simp only
     rw [if_neg g1,if_neg g2];rfl
  · rw [hno];rfl)
 have hE:lit=false∨(lit=true∧i=l.length):=by
  rcases hno with h | h
  · exact .inl h
  · have:=drop_none l i h
    cases lit
    · exact .inl rfl
    · exact .inr ⟨rfl,by omega⟩
 clear hr h1 h2 hno
 rcases hE with rfl | ⟨rfl,rfl⟩
 all_goals
  go_enter Tryz.func234,Tryz.ntmps234
  go_wp2_with fail
  refine SN.out.mono ?_
  rintro x w1 ⟨rfl,hr1,hb1⟩
  have HR1:=hid hr1
  have HB1:=hid hb1
  clear hr1 hb1
  go_wp2_with fail
  refine (SK.out _ HR1.out).mono ?_
  rintro x w2 ⟨rfl,hr2,hb2⟩
  have HR2:=hid hr2
  have HB2:=hid (HB1.out.trans hb2)
  obtain ⟨c0,c1,f0,f1⟩:=HR2.out.cells
  clear hr2 hb2
  go_wp2
  go_quiet (fail)
  go_wp2
  go_ret2
  exact ⟨by rw [HF.out];rfl,⟨_,hi,(fun p hp=>by rw [HF.out] at hp;cases hp),HR2.out⟩,HB2.out.trans (But.drawn q w2 _)⟩
theorem pesc_letter (q:Nat) (l t:List UInt8) (c:UInt8) (i:Nat) (w:World) (hr:Pr w q l i) (hl:l.length≤100000000) (hi:i≤l.length) (hd:l.drop i=c::t) (g1:c≠117) (g2:c≠85) :
  Calls Tryz.prog 234 #[rdp q,.bool true] w (PEscPost q i l w (escR true (l.drop i))):=by
 obtain ⟨hjl,hget,hdu⟩:=drop_get l i c t hd
 have SN:=hid (pskip_not q l [117] i w hr hl hi (by decide) (by rw [hd];simpa using g1))
 have SK:=hid fun w hr=>pskip_not q l [85] i w hr hl hi (by decide) (by rw [hd];simpa using g2)
 have HF:=hid (show escR true (l.drop i)=(Tm.letter c).map (fun d=>(d.toNat,1)) by
  rw [hd];unfold escR;simp only;rw [if_neg g1,if_neg g2];simp)
 have PS:=hid fun w=>pshort_any c w
 have hcc:=fun q=>ba_get l i c hget q
 have hjI:(i:Int)<(l.length:Int):=by omega
 have hne:((i:Int)==(l.length:Int))=false:=beq_eq_false_iff_ne.2 (by omega)
 clear hr hd g1 g2 hget hdu
 cases hx:Tm.letter c
 all_goals
  rw [hx] at PS HF
  unfold shortV at PS
  simp only at PS
  have HG:=hid HF.out
  clear HF hx
  go_enter Tryz.func234,Tryz.ntmps234
  go_wp2_with fail
  refine SN.out.mono ?_
  rintro x w1 ⟨rfl,hr1,hb1⟩
  have HR1:=hid hr1
  have HB1:=hid hb1
  clear hr1 hb1
  go_wp2_with fail
  refine (SK.out _ HR1.out).mono ?_
  rintro x w2 ⟨rfl,hr2,hb2⟩
  have HR2:=hid hr2
  have HB2:=hid (HB1.out.trans hb2)
  obtain ⟨c0,c1,f0,f1⟩:=HR2.out.cells
  clear hr2 hb2
  go_wp2
  go_quiet (fail)
  go_wp2
  go_quiet ((go_at_call 252;exact drawn_same fun W hW=>PS.out W))
  go_wp2
  go_ret2
  refine ⟨by rw [HG.out];rfl,⟨i+1,hjl,(fun p hp=>by rw [HG.out] at hp;cases hp <;> rfl),Pr.to (w:=w2) HR2.out (i+1)⟩,(HB2.out.trans (But.drawn q w2 _)).trans ((But.set q _ 1 _).trans (But.drawn q _ _))⟩
theorem pesc_any (q:Nat) (lit:Bool) (l:List UInt8) (i:Nat) (w:World) (hE:ErrAt w) (hq:q≠4) (hr:Pr w q l i) (hl:l.length≤100000000) (hi:i≤l.length) :
  Calls Tryz.prog 234 #[rdp q,.bool lit] w (PEscPost q i l w (escR lit (l.drop i))):=by
 by_cases h1:(l.drop i).take 1=[117]
 · obtain ⟨t,hd⟩:=take_one h1
   exact pesc_u q lit l t i w hE hq hr hl hi hd
 · by_cases h2:(l.drop i).take 1=[85]
   · obtain ⟨t,hd⟩:=take_one h2
     exact pesc_cap q lit l t i w hE hq hr hl hi hd
   · cases lit
     · exact pesc_none q false l i w hr hl hi h1 h2 (.inl rfl)
     · cases hd:l.drop i with
       | nil=>rw [←hd];exact pesc_none q true l i w hr hl hi h1 h2 (.inr hd)
       | cons c t=>
        rw [←hd]
        exact pesc_letter q l t c i w hr hl hi hd (fun e=>h1 (by rw [hd,e];rfl)) (fun e=>h2 (by rw [hd,e];rfl))
end Go.Proofs.YtjaebndajhppgaaGreatDoor
namespace Go.Proofs.YtjaebndajhppgaaGreatDoor
open Go.ChangeShapes Go.WideShapes Go.ChangeAt Go.RowKit
theorem Pr.lt {w:World} {q:Nat} {l:List UInt8} {i:Nat} (h:Pr w q l i):q<w.heap.size:=Blk.lt h
theorem own_but {q B n:Nat} {w w':World} {v:Value} {t:TypeId} {xs:List Value} (h:w.ownsRow B t 1 v n xs) (hb:But q w w') (hq:q<B):w'.ownsRow B t 1 v n xs:=by
 refine h.kept hb ?_
 cases hv:v.ownBlock with
 | none=>exact .inl rfl
 | some k=>refine .inr ?_;have:=(h.lt k hv).1;simp;omega
theorem but_grown {q:Nat} {w w1 w2:World} {o:Option Nat} (h:But q w w1) (hg:w1.grownBy w2 o) (ho:∀ k,o=some k→w.heap.size≤k):But q w w2:=by
 refine ⟨hg.os.trans h.os,hg.tape.trans h.tape,hg.output.trans h.output,Nat.le_trans h.size hg.size,fun i hi hn=>?_⟩
 rw [hg.block i (Nat.lt_of_lt_of_le hi h.size) ?_]
 · exact h.block i hi hn
 · intro e;have:=ho i e.symm;omega
theorem Pr.grown {q i:Nat} {l:List UInt8} {w w':World} {o:Option Nat} (h:Pr w q l i) (hg:w.grownBy w' o) (ho:∀ k,o=some k→k≠q):Pr w' q l i:=by
 have hk:=hg.block q (Blk.lt h) (fun e=>ho q e.symm rfl)
 unfold Pr Blk at *
 rw [hk];exact h
theorem grown_alloc {w w':World} {o:Obj} {b:Option Nat} (h:(w.alloc o).grownBy w' b):w.grownBy w' b:=
 ⟨h.os,h.tape,h.output,by have:=h.size;simp at this;omega,fun k hk hn=>by rw [h.block k (by simp;omega) hn];exact Below.heap_alloc _ _ _ hk⟩
theorem escR_ok {lit:Bool} {s:List UInt8} {x n:Nat} (h:escR lit s=some (x,n)):Tm.okRune x∧x≤1114111:=by
 have hx:∀ k t,Tm.hexR k t=some x→Tm.okRune x∧x≤1114111:=by
  intro k t hk
  unfold Tm.hexR at hk
  split at hk
  · cases hk
  · rename_i y _
    split at hk
    · cases hk
    · simp only [Option.some.injEq] at hk
      unfold Tm.okRune;omega
 cases s with
 | nil=>cases h
 | cons c t=>
  unfold escR at h
  simp only at h
  split at h
  · cases hr:Tm.hexR 4 t with
    | none=>rw [hr] at h;cases h
    | some y=>rw [hr] at h;simp only [Option.map_some,Option.some.injEq,Prod.mk.injEq] at h;rw [h.1] at hr;exact hx 4 t hr
  · split at h
    · cases hr:Tm.hexR 8 t with
      | none=>rw [hr] at h;cases h
      | some y=>rw [hr] at h;simp only [Option.map_some,Option.some.injEq,Prod.mk.injEq] at h;rw [h.1] at hr;exact hx 8 t hr
    · split at h
      · cases hr:Tm.letter c with
        | none=>rw [hr] at h;cases h
        | some y=>
         rw [hr] at h;simp only [Option.map_some,Option.some.injEq,Prod.mk.injEq] at h
         have:=letter_small hr
         unfold Tm.okRune;omega
      · cases h
theorem rune_cells {x:Nat} (h:Tm.okRune x):Lib.runeCells (x:Int)=(Tm.runeT x).map byv:=by
 show Lib.runeCells (x:Int)=(Tm.enc x).map byv
 rw [Tm.enc_eq x h]
 unfold Tm.okRune at h
 unfold Lib.runeCells
 by_cases h1:x<128
 · rw [if_pos h1,Lib.encodeRuneZ_one (by omega) (by omega)]
   simp only [List.map_cons,List.map_nil,byv,Tm.nat_of _ (show x<256 by omega)]
 rw [if_neg h1]
 by_cases h2:x<2048
 · rw [if_pos h2,Lib.encodeRuneZ_two (by omega) (by omega)]
   simp only [List.map_cons,List.map_nil,byv,Tm.nat_of _ (show 192+x / 64<256 by omega),Tm.nat_of _ (show 128+x % 64<256 by omega)]
   congr 2
 rw [if_neg h2]
 by_cases h3:x<65536
 · rw [if_pos h3,Lib.encodeRuneZ_three (by omega)]
   simp only [List.map_cons,List.map_nil,byv,Tm.nat_of _ (show 224+x / 4096<256 by omega),Tm.nat_of _ (show 128+x / 64 % 64<256 by omega),Tm.nat_of _ (show 128+x % 64<256 by omega)]
   congr 2
 rw [if_neg h3,Lib.encodeRuneZ_four (by omega) (by omega)]
 simp only [List.map_cons,List.map_nil,byv,Tm.nat_of _ (show 240+x / 262144<256 by omega),Tm.nat_of _ (show 128+x / 4096 % 64<256 by omega),Tm.nat_of _ (show 128+x / 64 % 64<256 by omega),Tm.nat_of _ (show 128+x % 64<256 by omega)]
 congr 2
def upVal (r:Option (List UInt8×List UInt8)):Value:=.tuple #[str (upT r),.bool r.isSome]
def UpPost (q:Nat) (l:List UInt8) (r:Option (List UInt8×List UInt8)) (w:World) (x:Ending) (w':World):Prop:=
 x=.returned (upVal r)∧(∃ j,j≤l.length∧(r≠none→l.drop j=upR r)∧Pr w' q l j)∧But q w w'
theorem pup_any (q:Nat) (l:List UInt8) (i:Nat) (e:UInt8) (lit:Bool) (w:World) (hE:ErrAt w) (hq:q≠4) (hr:Pr w q l i) (hl:l.length≤10000000) (hi:i≤l.length) (he:e≠92) (h10:e≠10∧e≠13) :
  Calls Tryz.prog 206 #[rdp q,.int .u8 (e.toNat:Nat),.bool lit] w (UpPost q l (Tm.upU e lit (l.drop i)) w):=by
 obtain ⟨i0,hi0,hz0,hz1,hz2⟩:=info_parts Tryz.info5
 have hqb:q<w.heap.size:=hr.lt
 have HR:=hid hr
 obtain ⟨ANS,hA⟩:∃ a,a=Tm.upU e lit (l.drop i):=⟨_,rfl⟩
 rw [←hA]
 have HA:=hid (show ANS=(Tm.upU e lit (l.drop i)).map (fun r=>([]++r.1,r.2)) by rw [hA];cases Tm.upU e lit (l.drop i) <;> rfl)
 have ES:=hid (fun (W:World) (j:Nat) (hB:But q w W) (hr:Pr W q l j) (hj:j≤l.length)=>pesc_any q lit l j W (hE.but hB hq) hq hr (by omega) hj)
 clear hA hr hE
 go_enter Tryz.func206,Tryz.ntmps206
 go_wp2
 go_step3
 go_wp2
 go_step3
 go_wp2
 go_loopg [8,9,10,11] l.length (fun gk s8 s9 s10 s11 wr=>∃ (out:List UInt8) (j:Nat),j≤l.length∧l.length-j≤gk∧out.length≤4*j∧Hid (Pr wr q l j)∧Hid (But q w wr)∧Hid (wr.ownsRow w.heap.size 5 1 s8 out.length (out.map byv))∧Hid (ANS=(Tm.upU e lit (l.drop j)).map (fun r=>(out++r.1,r.2))))
 case atStart=>exact ⟨[],i,hi,by omega,by simp,HR,But.refl _ _,World.ownsRow_nil _ _ _ _,HA⟩
 case round=>
  obtain ⟨out,j,hj,hg,ho,HT,HB,HO,HP⟩:=hrel
  obtain ⟨c0,c1,f0,f1⟩:=HT.out.cells
  have hzr:=HB.out.size
  match hd:l.drop j with
  | []=>
   have hjl:j=l.length:=by have:=drop_none l j hd;omega
   have HF:=hid (show ANS=none by rw [HP.out,hd];rfl)
   subst hjl
   have hjb:decide ((l.length:Int)<(l.length:Int))=false:=decide_eq_false (by omega)
   clear hd HP
   go_wp2
   go_quiet (fail)
   go_wp2
   go_ret2
   exact ⟨by rw [HF.out];rfl,⟨l.length,Nat.le_refl _,fun h=>absurd HF.out h,HT.out⟩,HB.out.trans (But.drawn q wr _)⟩
  | c::u=>
   obtain ⟨hjl,hget,hdu⟩:=drop_get l j c u hd
   have hcc:=fun q=>ba_get l j c hget q
   have hjI:(j:Int)<(l.length:Int):=by omega
   have hjb:decide ((j:Int)<(l.length:Int))=true:=decide_eq_true hjI
   have HC:=hid (show Tm.upU e lit (l.drop j)=_ by rw [hd,Tm.upU_cons])
   have HDU:=hid hdu
   have hce:((c.toNat:Int)==(e.toNat:Int))=decide (c=e):=by
    rw [Bool.eq_iff_iff,beq_iff_eq,decide_eq_true_iff]
    exact ⟨fun h=>UInt8.toNat_inj.1 (by omega),fun h=>by rw [h]⟩
   clear hd hdu hget
   by_cases h1:c=e
   · have HF:=hid (show ANS=some (out,u) by rw [HP.out,HC.out,if_pos h1];simp)
     rw [decide_eq_true h1] at hce
     have CV:=hid (fun (W:World) (h:W.ownsRow w.heap.size 5 1 u8 out.length (out.map byv))=>conv_own h rfl)
     clear h1 HP HC
     go_wp2
     go_quiet (fail)
     obtain ⟨n1,hn1⟩:∃ n,n=nq:=⟨_,rfl⟩
     subst hn1
     go_wp2
     go_quiet (fail)
     have cv:=CV.out ((wr.drewN (n1+nq)).setCell ⟨q,1,none⟩ (.int .i64 ((j:Int)+1))) (own_but HO.out ((But.drawn q wr (n1+nq)).trans (But.set q _ 1 (.int .i64 ((j:Int)+1)))) hqb)
     go_wp2
     rw [Exit.noGoto_ret]
     go_ret2
     exact ⟨by rw [HF.out];rfl,⟨j+1,hjl,fun _=>by rw [HF.out];exact HDU.out,Pr.to (w:=wr.drewN (n1+nq)) HT.out (j+1)⟩,HB.out.trans ((But.drawn q wr (n1+nq)).trans (But.set q _ 1 _))⟩
   rw [decide_eq_false h1] at hce
   by_cases h2:c=92
   · have hb10:((c.toNat:Int)==10)=false:=by rw [h2];rfl
     have hb13:((c.toNat:Int)==13)=false:=by rw [h2];rfl
     have hb92:((c.toNat:Int)==92)=true:=by rw [h2];rfl
     have ES2:=hid (fun (W:World) hB hr=>ES.out W (j+1) hB hr hjl)
     rw [HDU.out] at ES2
     cases hes:escR lit u with
     | none=>
      have HF:=hid (show ANS=none by rw [HP.out,HC.out,if_neg h1,if_pos h2,esc1_escR,hes];rfl)
      rw [hes] at ES2
      have ES3:Hid (∀ W,But q w W→Pr W q l (j+1)→Calls Tryz.prog 234 #[rdp q,.bool lit] W fun x w'=>x=.returned (.tuple #[.int .i32 0,.bool false])∧(∃ k,k≤l.length∧(∀ p:Nat×Nat,none=some p→k=j+1+p.2)∧Pr w' q l k)∧But q W w'):=ES2
      clear h1 h2 HP HC hes ES2
      go_wp2
      go_quiet (fail)
      obtain ⟨n1,hn1⟩:∃ n,n=nq:=⟨_,rfl⟩
      subst hn1
      go_wp2
      go_quiet (fail)
      have HBs:=hid (HB.out.trans ((But.drawn q wr (n1+nq)).trans (But.set q _ 1 (.int .i64 ((j:Int)+1)))))
      have HRs:=hid (Pr.to (w:=wr.drewN (n1+nq)) HT.out (j+1))
      go_wp2_with fail
      refine (ES3.out _ HBs.out HRs.out).mono ?_
      rintro x w3 ⟨rfl,⟨k,hk,_,hr3⟩,hb3⟩
      have HR3:=hid hr3
      have HB3:=hid (HBs.out.trans hb3)
      clear hr3 hb3
      go_wp2
      try rw [Exit.noGoto_ret]
      go_ret2
      exact ⟨by rw [HF.out];rfl,⟨k,hk,fun h=>absurd HF.out h,HR3.out⟩,HB3.out⟩
     | some p=>
      obtain ⟨x,n⟩:=p
      have hlen:=Tm.esc1_len (lit:=lit) (s:=u) (x:=Tm.runeT x) (n:=n) (by rw [esc1_escR,hes];rfl)
      obtain ⟨hok,hmx⟩:=escR_ok hes
      have hul:u.length+(j+1)=l.length:=by rw [←HDU.out,List.length_drop];omega
      have HF:=hid (show ANS=(Tm.upU e lit (l.drop (j+1+n))).map (fun r=>((out++Tm.runeT x)++r.1,r.2)) by
       rw [HP.out,HC.out,if_neg h1,if_pos h2,esc1_escR,hes]
       simp only [Option.map_some,Option.map_map]
       rw [←HDU.out,List.drop_drop]
       congr 1
       funext z;simp [Function.comp])
      rw [hes] at ES2
      have ES3:Hid (∀ W,But q w W→Pr W q l (j+1)→Calls Tryz.prog 234 #[rdp q,.bool lit] W fun y w'=>y=.returned (.tuple #[.int .i32 (x:Nat),.bool true])∧(∃ k,k≤l.length∧(∀ p:Nat×Nat,some (x,n)=some p→k=j+1+p.2)∧Pr w' q l k)∧But q W w'):=ES2
      have AR:=hid (fun (W:World) (h:W.ownsRow w.heap.size 5 1 u8 out.length (out.map byv)) (hz:w.heap.size≤W.heap.size)=>Tryz.utf8_AppendRune_plain w.heap.size u8 out.length (out.map byv) (x:Int) (by omega) (by omega) W h (by omega) hz)
      rw [rune_cells hok,List.length_map,←List.map_append,←List.length_append] at AR
      have hol:(out++Tm.runeT x).length≤4*(j+1+n):=by rw [List.length_append];omega
      have hjn:j+1+n≤l.length:=by omega
      obtain ⟨out2,ho2⟩:∃ o,o=out++Tm.runeT x:=⟨_,rfl⟩
      rw [←ho2] at HF AR hol
      clear h1 h2 HP HC hes ES2 hlen ho2
      go_wp2
      go_quiet (fail)
      obtain ⟨n1,hn1⟩:∃ n,n=nq:=⟨_,rfl⟩
      subst hn1
      go_wp2
      go_quiet (fail)
      have HBx:=hid ((But.drawn q wr (n1+nq)).trans (But.set q _ 1 (.int .i64 ((j:Int)+1))))
      have HRs:=hid (Pr.to (w:=wr.drewN (n1+nq)) HT.out (j+1))
      go_wp2_with fail
      refine (ES3.out _ (HB.out.trans HBx.out) HRs.out).mono ?_
      rintro y w3 ⟨rfl,⟨k,hk,hkp,hr3⟩,hb3⟩
      have HR3:=hid hr3
      have HB3:=hid (HB.out.trans (HBx.out.trans hb3))
      have HO3:=hid (own_but HO.out (HBx.out.trans hb3) hqb)
      have hk2:k=j+1+n:=hkp (x,n) rfl
      subst hk2
      clear hr3 hb3 hkp
      go_wp2_with fail
      refine (AR.out _ HO3.out HB3.out.size).mono ?_
      rintro y w4 ⟨v4,rfl,ho4,o4,hg4⟩
      have HO4:=hid ho4
      have HR4:=hid (HR3.out.grown (grown_alloc hg4) (fun k hk=>by have:=(HO3.out.lt k hk).1;omega))
      have HB4:=hid (but_grown HB3.out (grown_alloc hg4) (fun k hk=>(HO3.out.lt k hk).1))
      clear ho4 hg4
      go_wp2
      go_roundg (l.length-(j+1+n))
      case measure=>omega
      case rel=>exact ⟨out2,j+1+n,hjn,Nat.le_refl _,hol,HR4,HB4,HO4,HF⟩
   · have hb92:((c.toNat:Int)==92)=false:=beq_eq_false_iff_ne.2 (fun h=>h2 (UInt8.toNat_inj.1 (show c.toNat=(92:UInt8).toNat by show c.toNat=92;omega)))
     by_cases h3:c=10∨c=13
     · have HF:=hid (show ANS=none by rw [HP.out,HC.out,if_neg h1,if_neg h2,if_pos h3];rfl)
       rcases h3 with h3 | h3
       · have hb10:((c.toNat:Int)==10)=true:=by rw [h3];rfl
         clear h1 h2 h3 HP HC
         go_wp2
         go_quiet (fail)
         obtain ⟨n1,hn1⟩:∃ n,n=nq:=⟨_,rfl⟩
         subst hn1
         go_wp2
         go_quiet (fail)
         go_wp2
         try rw [Exit.noGoto_ret]
         go_ret2
         exact ⟨by rw [HF.out];rfl,⟨j+1,hjl,fun h=>absurd HF.out h,Pr.to (w:=wr.drewN (n1+nq)) HT.out (j+1)⟩,HB.out.trans ((But.drawn q wr (n1+nq)).trans (But.set q _ 1 _))⟩
       · have hb10:((c.toNat:Int)==10)=false:=by rw [h3];rfl
         have hb13:((c.toNat:Int)==13)=true:=by rw [h3];rfl
         clear h1 h2 h3 HP HC
         go_wp2
         go_quiet (fail)
         obtain ⟨n1,hn1⟩:∃ n,n=nq:=⟨_,rfl⟩
         subst hn1
         go_wp2
         go_quiet (fail)
         go_wp2
         try rw [Exit.noGoto_ret]
         go_ret2
         exact ⟨by rw [HF.out];rfl,⟨j+1,hjl,fun h=>absurd HF.out h,Pr.to (w:=wr.drewN (n1+nq)) HT.out (j+1)⟩,HB.out.trans ((But.drawn q wr (n1+nq)).trans (But.set q _ 1 _))⟩
     · have hb10:((c.toNat:Int)==10)=false:=beq_eq_false_iff_ne.2 (fun h=>h3 (.inl (UInt8.toNat_inj.1 (show c.toNat=(10:UInt8).toNat by show c.toNat=10;omega))))
       have hb13:((c.toNat:Int)==13)=false:=beq_eq_false_iff_ne.2 (fun h=>h3 (.inr (UInt8.toNat_inj.1 (show c.toNat=(13:UInt8).toNat by show c.toNat=13;omega))))
       have HF:=hid (show ANS=(Tm.upU e lit (l.drop (j+1))).map (fun r=>((out++[c])++r.1,r.2)) by
        rw [HP.out,HC.out,if_neg h1,if_neg h2,if_neg h3,HDU.out]
        simp only [Option.map_map]
        congr 1
        funext z;simp [Function.comp])
       have hol:(out++[c]).length≤4*(j+1):=by rw [List.length_append];simp;omega
       have hom:(out++[c]).length=out.length+1:=by simp
       have hmp:(out++[c]).map byv=out.map byv++[byv c]:=by simp
       obtain ⟨out2,ho2⟩:∃ o,o=out++[c]:=⟨_,rfl⟩
       rw [←ho2] at HF hol hom hmp
       clear h1 h2 h3 HP HC ho2
       go_wp2
       go_quiet (fail)
       obtain ⟨n1,hn1⟩:∃ n,n=nq:=⟨_,rfl⟩
       subst hn1
       go_wp2
       go_quiet (fail)
       have HBx:=hid ((But.drawn q wr (n1+nq)).trans (But.set q _ 1 (.int .i64 ((j:Int)+1))))
       have HRs:=hid (Pr.to (w:=wr.drewN (n1+nq)) HT.out (j+1))
       have HO3:=hid (own_but HO.out HBx.out hqb)
       have HB3:=hid (HB.out.trans HBx.out)
       go_wp2_with (at_builtin;refine wpList_append_many rfl (.tmp 60) (.tmp 62) 32 rfl w.heap.size 5 i0 _ 1 Tryz.underlying32 hi0 hz0 hz1 hz2 rfl u8 _ _ [byv c] 1 (by rfl) ((wr.drewN (n1+nq)).setCell ⟨q,1,none⟩ (.int .i64 ((j:Int)+1))) rfl rfl HO3.out wr.heap.size ?hh rfl ?one ?b1 ?b2 ?base ?_)
       case hh=>simp
       case one=>intro u hu;simp at hu;rw [hu];rfl
       case b1=>unfold maxLen;omega
       case b2=>omega
       case base=>exact HB3.out.size
       intro v4 w4 ho4 hg4 _
       have HO4:=hid ho4
       rw [←hom,←hmp] at HO4
       have HR4:=hid (HRs.out.grown hg4 (fun k hk=>by have:=(HO3.out.lt k hk).1;omega))
       have HB4:=hid (but_grown HB3.out hg4 (fun k hk=>(HO3.out.lt k hk).1))
       clear ho4 hg4
       go_wp2
       go_roundg (l.length-(j+1))
       case measure=>omega
       case rel=>exact ⟨out2,j+1,hjl,Nat.le_refl _,hol,HR4,HB4,HO4,HF⟩
theorem struct_ret2 {fn:Func} {tmps:Array Value} {Z:World} {b:Nat} {v0 v1 v2 v3:Value} (ht:tmps.getD 2 undef=.pointer (some ⟨b,0,none⟩)) (h3:tmps.getD 3 undef=v3) (hZ:Blk Z b [v0,v1,v2] 61) (hf:fn.results=#[.cell 2 61,.tmp 3]) :
  (results fn tmps).run Tryz.prog Z=.ok (.tuple #[.agg #[v0,v1,v2],v3]) Z:=by
 have h0:=hZ.cell (i:=0) rfl
 have h1:=hZ.cell (i:=1) rfl
 have h2:=hZ.cell (i:=2) rfl
 have ht':tmps[2]?.getD undef=.pointer (some ⟨b,0,none⟩):=by simpa using ht
 have h3':tmps[3]?.getD undef=v3:=by simpa using h3
 simp [results,hf,ht',h3',go_sem,h0,h1,h2]
theorem fin_end {w X:World} {q b j:Nat} {x y z v0 v1 v2:Value} {l:List UInt8} {t:TypeId} (hT:Blk X b [x,y,z] t) (hq:Pr X q l j) (hne:b≠q) (hB:But q w X) (hb:w.heap.size≤b) :
  Blk (((X.setCell ⟨b,0,none⟩ v0).setCell ⟨b,1,none⟩ v1).setCell ⟨b,2,none⟩ v2) b [v0,v1,v2] t∧Pr (((X.setCell ⟨b,0,none⟩ v0).setCell ⟨b,1,none⟩ v1).setCell ⟨b,2,none⟩ v2) q l j∧But q w (((X.setCell ⟨b,0,none⟩ v0).setCell ⟨b,1,none⟩ v1).setCell ⟨b,2,none⟩ v2):=by
 refine ⟨((hT.set 0 v0).set 1 v1).set 2 v2,Blk.other (Blk.other (Blk.other hq (Ne.symm hne) 0 v0) (Ne.symm hne) 1 v1) (Ne.symm hne) 2 v2,?_⟩
 have st:∀ (X:World) (i:Nat) (v:Value),But q w X→But q w (X.setCell ⟨b,i,none⟩ v):=fun X i v h=>
  ⟨h.os,h.tape,h.output,by have:=h.size;simpa using this,fun k hk hn=>by rw [Below.heap_setCell _ _ _ _ (by show k≠b;omega)];exact h.block k hk hn⟩
 exact st _ _ _ (st _ _ _ (st _ _ _ hB))
def TermPost (q:Nat) (l:List UInt8) (w:World) (r:Option (Nat×List UInt8×List UInt8×List UInt8)) (e:Ending) (w':World):Prop:=
 But q w w'∧match r with
  | none=>(∃ (k:Nat) (t x:List UInt8),e=.returned (.tuple #[tmV (k:Nat) t x,.bool false]))∧∃ j,j≤l.length∧Pr w' q l j
  | some (k,t,x,v)=>e=.returned (.tuple #[tmV (k:Nat) t x,.bool true])∧∃ j,j≤l.length∧l.drop j=v∧Pr w' q l j
theorem plit_none (q:Nat) (l:List UInt8) (i:Nat) (w:World) (hE:ErrAt w) (hq:q≠4) (hr:Pr w q l i) (hl:l.length≤10000000) (hi:i≤l.length) (h:Tm.upU 34 true (l.drop i)=none) :
  Calls Tryz.prog 209 #[rdp q] w (TermPost q l w (Tm.rlit (l.drop i))):=by
 have HN:=hid (show Tm.rlit (l.drop i)=none by unfold Tm.rlit;rw [h])
 rw [HN.out]
 have hlt:=hr.lt
 have UP:=hid (fun (W:World) (hB:But q w W) (hr:Pr W q l i)=>pup_any q l i 34 true W (hE.but hB hq) hq hr hl hi (by decide) (by decide))
 rw [h] at UP
 have UP2:Hid (∀ W,But q w W→Pr W q l i→Calls Tryz.prog 206 #[rdp q,.int .u8 34,.bool true] W fun x w'=>x=.returned (.tuple #[str [],.bool false])∧(∃ j,j≤l.length∧((none:Option (List UInt8×List UInt8))≠none→l.drop j=[])∧Pr w' q l j)∧But q W w'):=UP
 have HR1:=hid (hr.keep ((Below.refl _ _).alloc (Nat.le_refl _) (.cells #[.int .i64 0,.string ⟨#[]⟩,.string ⟨#[]⟩] 61)))
 clear UP h hr hE
 go_enter Tryz.func209,Tryz.ntmps209
 have HB1:=hid (show But q w (w.alloc (.cells #[.int .i64 0,.string ⟨#[]⟩,.string ⟨#[]⟩] 61)) from But.below ((Below.refl w.heap.size w).alloc (Nat.le_refl _) _))
 have HT1:=hid (Blk.new w [.int .i64 0,str [],str []] 61)
 go_wp2_with fail
 refine (UP2.out _ HB1.out HR1.out).mono ?_
 rintro x w2 ⟨rfl,⟨j,hj,_,hr2⟩,hb2⟩
 have HT2:=hid (But.blk HT1.out hb2 (by omega))
 have HB2:=hid (HB1.out.trans hb2)
 have HR2:=hid hr2
 clear hr2 hb2
 have g0:=HT2.out.cell (i:=0) rfl
 have g1:=HT2.out.cell (i:=1) rfl
 have g2:=HT2.out.cell (i:=2) rfl
 have k0:=HT2.out.free 0
 have k1:=HT2.out.free 1
 have k2:=HT2.out.free 2
 go_wp2
 have HX:=fin_end (hT:=HT2.out) (v0:=.int .i64 0) (v1:=.string ⟨([]:List UInt8).toArray⟩) (v2:=.string ⟨([]:List UInt8).toArray⟩) (hq:=HR2.out) (hne:=by omega) (hB:=HB2.out) (hb:=Nat.le_refl _)
 obtain ⟨hx1,hx2,hx3⟩:=HX
 exact bodyPost_ret (v:=.tuple #[tmV (0:Nat) [] [],.bool false]) (struct_ret2 rfl rfl hx1 Tryz.results209) rfl ⟨hx3,⟨0,[],[],rfl⟩,j,hj,hx2⟩
theorem lowerB_all:∀ k:Fin 256,Lib.lowerB (UInt8.ofNat k.val)=Tm.lower (UInt8.ofNat k.val):=by decide
theorem lowerB_eq (b:UInt8):Lib.lowerB b=Tm.lower b:=by
 have h:=lowerB_all ⟨b.toNat,b.toNat_lt⟩
 simpa using h
theorem alnumD_low {c:UInt8} (h:Tm.alnumD c=true):c.toNat<128:=by
 unfold Tm.alnumD Tm.alnum Tm.small Tm.digit at h
 simp only [Bool.or_eq_true,Bool.and_eq_true,decide_eq_true_eq,beq_iff_eq] at h
 rcases h with h | h
 · omega
 · rw [h];decide
theorem tolower_any (n:List UInt8) (w:World) (hn:n.length≤1000000000) (h:∀ c∈n,Tm.alnumD c=true):Calls Tryz.prog 236 #[str n] w fun e w'=>e=.returned (str (n.map Tm.lower))∧Below w.heap.size w w':=by
 have:=Tryz.strings_ToLower_ascii ⟨n.toArray⟩ w (by simp [ByteArray.size];omega) (fun j b hb=>alnumD_low (h b (List.mem_of_getElem? (by simpa using hb))))
 have e:Lib.toLowerA (⟨n.toArray⟩:ByteArray).data.toList=n.map Tm.lower:=by
  unfold Lib.toLowerA
  exact List.map_congr_left fun c _=>lowerB_eq c
 rw [e] at this
 exact this
theorem take_head {v:List UInt8} {c:UInt8} (h:v.headD 0=c) (hc:c≠0):v.take 1=[c]:=by
 cases v with
 | nil=>exact absurd h.symm hc
 | cons d u=>simp only [List.headD_cons] at h;rw [h];rfl
theorem take_nohead {v:List UInt8} {c:UInt8} (h:v.headD 0≠c):v.take 1≠[c]:=by
 cases v with
 | nil=>simp
 | cons d u=>simp only [List.headD_cons] at h;simpa using h
theorem takeWhile_mem {p:UInt8→Bool}:∀ {l:List UInt8} {c:UInt8},c∈l.takeWhile p→p c=true
 | d::l,c,h=>by
  rw [List.takeWhile_cons] at h
  split at h
  · rcases List.mem_cons.1 h with rfl | h
    · assumption
    · exact takeWhile_mem h
  · cases h
theorem plit_plain (q:Nat) (l:List UInt8) (i:Nat) (w:World) (t v:List UInt8) (hE:ErrAt w) (hq:q≠4) (hr:Pr w q l i) (hl:l.length≤10000000) (hi:i≤l.length) (h:Tm.upU 34 true (l.drop i)=some (t,v)) (h1:v.headD 0≠64) (h2:v.take 3≠[94,94,60]) :
  Calls Tryz.prog 209 #[rdp q] w (TermPost q l w (Tm.rlit (l.drop i))):=by
 have HN:=hid (show Tm.rlit (l.drop i)=some (3,t,[],v) by unfold Tm.rlit;rw [h];simp only;rw [if_neg h1,if_neg h2])
 rw [HN.out]
 have hlt:=hr.lt
 have hvl:=Tm.upU_len _ (Nat.le_refl _) h
 have HE:=hid (fun W hB=>hE.but (w':=W) hB hq)
 have UP:=hid (fun (W:World) (hB:But q w W) (hr:Pr W q l i)=>pup_any q l i 34 true W (HE.out W hB) hq hr hl hi (by decide) (by decide))
 rw [h] at UP
 have UP2:Hid (∀ W,But q w W→Pr W q l i→Calls Tryz.prog 206 #[rdp q,.int .u8 34,.bool true] W fun x w'=>x=.returned (.tuple #[str t,.bool true])∧(∃ j,j≤l.length∧(some (t,v)≠none→l.drop j=v)∧Pr w' q l j)∧But q W w'):=UP
 have HR1:=hid (hr.keep ((Below.refl _ _).alloc (Nat.le_refl _) (.cells #[.int .i64 0,.string ⟨#[]⟩,.string ⟨#[]⟩] 61)))
 have S1:=hid (fun (W:World) (j:Nat) (hd:l.drop j=v) (hj:j≤l.length) (hr:Pr W q l j)=>pskip_not q l [64] j W hr (by omega) hj (by decide) (by rw [hd];exact take_nohead h1))
 have S2:=hid (fun (W:World) (j:Nat) (hd:l.drop j=v) (hj:j≤l.length) (hr:Pr W q l j)=>pskip_not q l [94,94,60] j W hr (by omega) hj (by decide) (by rw [hd];exact h2))
 clear UP h hr hE h1 h2
 go_enter Tryz.func209,Tryz.ntmps209
 have HB1:=hid (show But q w (w.alloc (.cells #[.int .i64 0,.string ⟨#[]⟩,.string ⟨#[]⟩] 61)) from But.below ((Below.refl w.heap.size w).alloc (Nat.le_refl _) _))
 have HT1:=hid (Blk.new w [.int .i64 0,str [],str []] 61)
 go_wp2_with fail
 refine (UP2.out _ HB1.out HR1.out).mono ?_
 rintro x w2 ⟨rfl,⟨j,hj,hjd,hr2⟩,hb2⟩
 have HT2:=hid (But.blk HT1.out hb2 (by omega))
 have HB2:=hid (HB1.out.trans hb2)
 have HR2:=hid hr2
 have HD2:=hid (hjd (by simp))
 clear hr2 hb2 hjd
 go_wp2_with fail
 refine (S1.out _ j HD2.out hj HR2.out).mono ?_
 rintro x w3 ⟨rfl,hr3,hb3⟩
 have HT3:=hid (But.blk HT2.out hb3 (by omega))
 have HB3:=hid (HB2.out.trans hb3)
 have HR3:=hid hr3
 clear hr3 hb3
 go_wp2_with fail
 refine (S2.out _ j HD2.out hj HR3.out).mono ?_
 rintro x w4 ⟨rfl,hr4,hb4⟩
 have HT4:=hid (But.blk HT3.out hb4 (by omega))
 have HB4:=hid (HB3.out.trans hb4)
 have HR4:=hid hr4
 clear hr4 hb4
 have g0:=HT4.out.cell (i:=0) rfl
 have g1:=HT4.out.cell (i:=1) rfl
 have g2:=HT4.out.cell (i:=2) rfl
 have k0:=HT4.out.free 0
 have k1:=HT4.out.free 1
 have k2:=HT4.out.free 2
 go_wp2
 have HX:=fin_end (hT:=HT4.out) (v0:=.int .i64 3) (v1:=.string ⟨(t:List UInt8).toArray⟩) (v2:=.string ⟨([]:List UInt8).toArray⟩) (hq:=HR4.out) (hne:=by omega) (hB:=HB4.out) (hb:=Nat.le_refl _)
 obtain ⟨hx1,hx2,hx3⟩:=HX
 exact bodyPost_ret (v:=.tuple #[tmV (3:Nat) (t) ([]),.bool true]) (struct_ret2 rfl rfl hx1 Tryz.results209) rfl ⟨hx3,rfl,j,hj,HD2.out,hx2⟩
theorem plit_lang (q:Nat) (l:List UInt8) (i:Nat) (w:World) (t v:List UInt8) (hE:ErrAt w) (hq:q≠4) (hr:Pr w q l i) (hl:l.length≤10000000) (hi:i≤l.length) (h:Tm.upU 34 true (l.drop i)=some (t,v)) (h1:v.headD 0=64) :
  Calls Tryz.prog 209 #[rdp q] w (TermPost q l w (Tm.rlit (l.drop i))):=by
 have HN:=hid (show Tm.rlit (l.drop i)=some (4,t,(v.tail.takeWhile Tm.alnumD).map Tm.lower,v.tail.dropWhile Tm.alnumD) by unfold Tm.rlit;rw [h];simp only;rw [if_pos h1])
 rw [HN.out]
 have hlt:=hr.lt
 have hvl:=Tm.upU_len _ (Nat.le_refl _) h
 have HE:=hid (fun W hB=>hE.but (w':=W) hB hq)
 have UP:=hid (fun (W:World) (hB:But q w W) (hr:Pr W q l i)=>pup_any q l i 34 true W (HE.out W hB) hq hr hl hi (by decide) (by decide))
 rw [h] at UP
 have UP2:Hid (∀ W,But q w W→Pr W q l i→Calls Tryz.prog 206 #[rdp q,.int .u8 34,.bool true] W fun x w'=>x=.returned (.tuple #[str t,.bool true])∧(∃ j,j≤l.length∧(some (t,v)≠none→l.drop j=v)∧Pr w' q l j)∧But q W w'):=UP
 have HR1:=hid (hr.keep ((Below.refl _ _).alloc (Nat.le_refl _) (.cells #[.int .i64 0,.string ⟨#[]⟩,.string ⟨#[]⟩] 61)))
 have hdt:∀ j,l.drop j=v→l.drop (j+1)=v.tail∧j+1≤l.length:=by
  intro j hd
  have h2:=take_head h1 (by decide)
  obtain ⟨u,hu⟩:=take_one h2
  rw [hu] at hd ⊢
  obtain ⟨a,_,b⟩:=drop_get l j 64 u hd
  exact ⟨b,a⟩
 have S1:=hid (fun (W:World) (j:Nat) (hd:l.drop j=v) (hj:j≤l.length) (hr:Pr W q l j)=>pskip_is q l [64] j W hr (by omega) hj (by decide) (by rw [hd];exact take_head h1 (by decide)))
 obtain ⟨nm,hnm⟩:∃ nm,nm=v.tail.takeWhile Tm.alnumD:=⟨_,rfl⟩
 have NM:Hid (∀ (W:World) (j:Nat),l.drop j=v.tail→j≤l.length→Pr W q l j→Calls Tryz.prog 207 #[rdp q,.func (.func 237) #[] #[]] W fun x w'=>x=.returned (str nm)∧(∃ k,k≤l.length∧l.drop k=v.tail.dropWhile Tm.alnumD∧Pr w' q l k)∧But q W w'):=by
  intro W j hd hj hr
  have:=pname_any 237 q Tm.alnumD l j W (enters_of Tryz.func237 (by kernel_rfl) rfl) (fun c W=>plang_any c W) hr (by omega) hj
  rw [hd,←hnm] at this
  exact this
 have hnl:nm.length≤1000000000:=by
  have:=tw_len Tm.alnumD v.tail
  rw [←hnm,List.length_tail] at this
  have:=List.length_drop (i:=i) (l:=l)
  omega
 have LW:=hid (fun W=>tolower_any nm W hnl (fun c hc=>by rw [hnm] at hc;exact takeWhile_mem hc))
 rw [←hnm]
 have HDT:=hid hdt
 clear UP h hr hE h1 hdt hnm
 go_enter Tryz.func209,Tryz.ntmps209
 have HB1:=hid (show But q w (w.alloc (.cells #[.int .i64 0,.string ⟨#[]⟩,.string ⟨#[]⟩] 61)) from But.below ((Below.refl w.heap.size w).alloc (Nat.le_refl _) _))
 have HT1:=hid (Blk.new w [.int .i64 0,str [],str []] 61)
 go_wp2_with fail
 refine (UP2.out _ HB1.out HR1.out).mono ?_
 rintro x w2 ⟨rfl,⟨j,hj,hjd,hr2⟩,hb2⟩
 have HT2:=hid (But.blk HT1.out hb2 (by omega))
 have HB2:=hid (HB1.out.trans hb2)
 have HR2:=hid hr2
 have HD2:=hid (hjd (by simp))
 clear hr2 hb2 hjd
 have HDT2:=hid (HDT.out j HD2.out)
 go_wp2_with fail
 refine (S1.out _ j HD2.out hj HR2.out).mono ?_
 rintro x w3 ⟨rfl,hr3,hb3⟩
 have HT3:=hid (But.blk HT2.out hb3 (by omega))
 have HB3:=hid (HB2.out.trans hb3)
 have HR3:=hid hr3
 clear hr3 hb3
 go_wp2_with fail
 refine (NM.out _ (j+1) HDT2.out.1 HDT2.out.2 HR3.out).mono ?_
 rintro x w4 ⟨rfl,⟨k,hk,hkd,hr4⟩,hb4⟩
 have HT4:=hid (But.blk HT3.out hb4 (by omega))
 have HB4:=hid (HB3.out.trans hb4)
 have HR4:=hid hr4
 have HK:=hid hkd
 clear hr4 hb4 hkd
 go_wp2_with fail
 refine (LW.out _).mono ?_
 rintro x w5 ⟨rfl,hb5⟩
 have HT5:=hid (HT4.out.keep hb5)
 have HB5:=hid (HB4.out.trans (But.below hb5))
 have HR5:=hid (HR4.out.keep hb5)
 clear hb5
 have g0:=HT5.out.cell (i:=0) rfl
 have g1:=HT5.out.cell (i:=1) rfl
 have g2:=HT5.out.cell (i:=2) rfl
 have k0:=HT5.out.free 0
 have k1:=HT5.out.free 1
 have k2:=HT5.out.free 2
 go_wp2
 have HX:=fin_end (hT:=HT5.out) (v0:=.int .i64 4) (v1:=.string ⟨(t:List UInt8).toArray⟩) (v2:=.string ⟨(nm.map Tm.lower:List UInt8).toArray⟩) (hq:=HR5.out) (hne:=by omega) (hB:=HB5.out) (hb:=Nat.le_refl _)
 obtain ⟨hx1,hx2,hx3⟩:=HX
 exact bodyPost_ret (v:=.tuple #[tmV (4:Nat) (t) (nm.map Tm.lower),.bool true]) (struct_ret2 rfl rfl hx1 Tryz.results209) rfl ⟨hx3,rfl,k,hk,HK.out,hx2⟩
theorem plit_typed (q:Nat) (l:List UInt8) (i:Nat) (w:World) (t v:List UInt8) (hE:ErrAt w) (hq:q≠4) (hr:Pr w q l i) (hl:l.length≤10000000) (hi:i≤l.length) (h:Tm.upU 34 true (l.drop i)=some (t,v)) (y z:List UInt8) (h1:v.headD 0≠64) (h2:v.take 3=[94,94,60]) (h3:Tm.upU 62 false (v.drop 3)=some (y,z)) :
  Calls Tryz.prog 209 #[rdp q] w (TermPost q l w (Tm.rlit (l.drop i))):=by
 have HN:=hid (show Tm.rlit (l.drop i)=some (5,t,y,z) by unfold Tm.rlit;rw [h];simp only;rw [if_neg h1,if_pos h2,h3];rfl)
 rw [HN.out]
 have hlt:=hr.lt
 have hvl:=Tm.upU_len _ (Nat.le_refl _) h
 have HE:=hid (fun W hB=>hE.but (w':=W) hB hq)
 have UP:=hid (fun (W:World) (hB:But q w W) (hr:Pr W q l i)=>pup_any q l i 34 true W (HE.out W hB) hq hr hl hi (by decide) (by decide))
 rw [h] at UP
 have UP2:Hid (∀ W,But q w W→Pr W q l i→Calls Tryz.prog 206 #[rdp q,.int .u8 34,.bool true] W fun x w'=>x=.returned (.tuple #[str t,.bool true])∧(∃ j,j≤l.length∧(some (t,v)≠none→l.drop j=v)∧Pr w' q l j)∧But q W w'):=UP
 have HR1:=hid (hr.keep ((Below.refl _ _).alloc (Nat.le_refl _) (.cells #[.int .i64 0,.string ⟨#[]⟩,.string ⟨#[]⟩] 61)))
 have S1:=hid (fun (W:World) (j:Nat) (hd:l.drop j=v) (hj:j≤l.length) (hr:Pr W q l j)=>pskip_not q l [64] j W hr (by omega) hj (by decide) (by rw [hd];exact take_nohead h1))
 have hd3:∀ j,l.drop j=v→l.drop (j+3)=v.drop 3∧j+3≤l.length:=by
  intro j hd
  have e:=congrArg List.length h2
  rw [List.length_take] at e
  have e2:=congrArg List.length hd
  rw [List.length_drop] at e2
  simp only [List.length_cons,List.length_nil] at e
  exact ⟨by rw [←hd,List.drop_drop],by omega⟩
 have S2:=hid (fun (W:World) (j:Nat) (hd:l.drop j=v) (hj:j≤l.length) (hr:Pr W q l j)=>pskip_is q l [94,94,60] j W hr (by omega) hj (by decide) (by rw [hd];exact h2))
 have U2:Hid (∀ (W:World) (j:Nat),l.drop j=v.drop 3→j≤l.length→But q w W→Pr W q l j→Calls Tryz.prog 206 #[rdp q,.int .u8 62,.bool false] W fun x w'=>x=.returned (.tuple #[str y,.bool true])∧(∃ k,k≤l.length∧(some (y,z)≠none→l.drop k=z)∧Pr w' q l k)∧But q W w'):=by
  intro W j hd hj hB hr
  have:=pup_any q l j 62 false W (HE.out W hB) hq hr hl hj (by decide) (by decide)
  rw [hd,h3] at this
  exact this
 have HD3:=hid hd3
 clear UP h hr hE h1 h2 h3 hd3
 go_enter Tryz.func209,Tryz.ntmps209
 have HB1:=hid (show But q w (w.alloc (.cells #[.int .i64 0,.string ⟨#[]⟩,.string ⟨#[]⟩] 61)) from But.below ((Below.refl w.heap.size w).alloc (Nat.le_refl _) _))
 have HT1:=hid (Blk.new w [.int .i64 0,str [],str []] 61)
 go_wp2_with fail
 refine (UP2.out _ HB1.out HR1.out).mono ?_
 rintro x w2 ⟨rfl,⟨j,hj,hjd,hr2⟩,hb2⟩
 have HT2:=hid (But.blk HT1.out hb2 (by omega))
 have HB2:=hid (HB1.out.trans hb2)
 have HR2:=hid hr2
 have HD2:=hid (hjd (by simp))
 clear hr2 hb2 hjd
 have HDT2:=hid (HD3.out j HD2.out)
 go_wp2_with fail
 refine (S1.out _ j HD2.out hj HR2.out).mono ?_
 rintro x w3 ⟨rfl,hr3,hb3⟩
 have HT3:=hid (But.blk HT2.out hb3 (by omega))
 have HB3:=hid (HB2.out.trans hb3)
 have HR3:=hid hr3
 clear hr3 hb3
 go_wp2_with fail
 refine (S2.out _ j HD2.out hj HR3.out).mono ?_
 rintro x w4 ⟨rfl,hr4,hb4⟩
 have HT4:=hid (But.blk HT3.out hb4 (by omega))
 have HB4:=hid (HB3.out.trans hb4)
 have HR4:=hid hr4
 clear hr4 hb4
 go_wp2_with fail
 refine (U2.out _ (j+3) HDT2.out.1 HDT2.out.2 HB4.out HR4.out).mono ?_
 rintro x w5 ⟨rfl,⟨k,hk,hkd,hr5⟩,hb5⟩
 have HT5:=hid (But.blk HT4.out hb5 (by omega))
 have HB5:=hid (HB4.out.trans hb5)
 have HR5:=hid hr5
 have HK:=hid hkd
 clear hr5 hb5 hkd
 have g0:=HT5.out.cell (i:=0) rfl
 have g1:=HT5.out.cell (i:=1) rfl
 have g2:=HT5.out.cell (i:=2) rfl
 have k0:=HT5.out.free 0
 have k1:=HT5.out.free 1
 have k2:=HT5.out.free 2
 go_wp2
 have HX:=fin_end (hT:=HT5.out) (v0:=.int .i64 5) (v1:=.string ⟨(t:List UInt8).toArray⟩) (v2:=.string ⟨(y:List UInt8).toArray⟩) (hq:=HR5.out) (hne:=by omega) (hB:=HB5.out) (hb:=Nat.le_refl _)
 obtain ⟨hx1,hx2,hx3⟩:=HX
 exact bodyPost_ret (v:=.tuple #[tmV (5:Nat) (t) (y),.bool true]) (struct_ret2 rfl rfl hx1 Tryz.results209) rfl ⟨hx3,rfl,k,hk,HK.out (by simp),hx2⟩
theorem plit_typed_no (q:Nat) (l:List UInt8) (i:Nat) (w:World) (t v:List UInt8) (hE:ErrAt w) (hq:q≠4) (hr:Pr w q l i) (hl:l.length≤10000000) (hi:i≤l.length) (h:Tm.upU 34 true (l.drop i)=some (t,v)) (h1:v.headD 0≠64) (h2:v.take 3=[94,94,60]) (h3:Tm.upU 62 false (v.drop 3)=none) :
  Calls Tryz.prog 209 #[rdp q] w (TermPost q l w (Tm.rlit (l.drop i))):=by
 have HN:=hid (show Tm.rlit (l.drop i)=none by unfold Tm.rlit;rw [h];simp only;rw [if_neg h1,if_pos h2,h3];rfl)
 rw [HN.out]
 have hlt:=hr.lt
 have hvl:=Tm.upU_len _ (Nat.le_refl _) h
 have HE:=hid (fun W hB=>hE.but (w':=W) hB hq)
 have UP:=hid (fun (W:World) (hB:But q w W) (hr:Pr W q l i)=>pup_any q l i 34 true W (HE.out W hB) hq hr hl hi (by decide) (by decide))
 rw [h] at UP
 have UP2:Hid (∀ W,But q w W→Pr W q l i→Calls Tryz.prog 206 #[rdp q,.int .u8 34,.bool true] W fun x w'=>x=.returned (.tuple #[str t,.bool true])∧(∃ j,j≤l.length∧(some (t,v)≠none→l.drop j=v)∧Pr w' q l j)∧But q W w'):=UP
 have HR1:=hid (hr.keep ((Below.refl _ _).alloc (Nat.le_refl _) (.cells #[.int .i64 0,.string ⟨#[]⟩,.string ⟨#[]⟩] 61)))
 have S1:=hid (fun (W:World) (j:Nat) (hd:l.drop j=v) (hj:j≤l.length) (hr:Pr W q l j)=>pskip_not q l [64] j W hr (by omega) hj (by decide) (by rw [hd];exact take_nohead h1))
 have hd3:∀ j,l.drop j=v→l.drop (j+3)=v.drop 3∧j+3≤l.length:=by
  intro j hd
  have e:=congrArg List.length h2
  rw [List.length_take] at e
  have e2:=congrArg List.length hd
  rw [List.length_drop] at e2
  simp only [List.length_cons,List.length_nil] at e
  exact ⟨by rw [←hd,List.drop_drop],by omega⟩
 have S2:=hid (fun (W:World) (j:Nat) (hd:l.drop j=v) (hj:j≤l.length) (hr:Pr W q l j)=>pskip_is q l [94,94,60] j W hr (by omega) hj (by decide) (by rw [hd];exact h2))
 have U2:Hid (∀ (W:World) (j:Nat),l.drop j=v.drop 3→j≤l.length→But q w W→Pr W q l j→Calls Tryz.prog 206 #[rdp q,.int .u8 62,.bool false] W fun x w'=>x=.returned (.tuple #[str [],.bool false])∧(∃ k,k≤l.length∧((none:Option (List UInt8×List UInt8))≠none→l.drop k=[])∧Pr w' q l k)∧But q W w'):=by
  intro W j hd hj hB hr
  have:=pup_any q l j 62 false W (HE.out W hB) hq hr hl hj (by decide) (by decide)
  rw [hd,h3] at this
  exact this
 have HD3:=hid hd3
 clear UP h hr hE h1 h2 h3 hd3
 go_enter Tryz.func209,Tryz.ntmps209
 have HB1:=hid (show But q w (w.alloc (.cells #[.int .i64 0,.string ⟨#[]⟩,.string ⟨#[]⟩] 61)) from But.below ((Below.refl w.heap.size w).alloc (Nat.le_refl _) _))
 have HT1:=hid (Blk.new w [.int .i64 0,str [],str []] 61)
 go_wp2_with fail
 refine (UP2.out _ HB1.out HR1.out).mono ?_
 rintro x w2 ⟨rfl,⟨j,hj,hjd,hr2⟩,hb2⟩
 have HT2:=hid (But.blk HT1.out hb2 (by omega))
 have HB2:=hid (HB1.out.trans hb2)
 have HR2:=hid hr2
 have HD2:=hid (hjd (by simp))
 clear hr2 hb2 hjd
 have HDT2:=hid (HD3.out j HD2.out)
 go_wp2_with fail
 refine (S1.out _ j HD2.out hj HR2.out).mono ?_
 rintro x w3 ⟨rfl,hr3,hb3⟩
 have HT3:=hid (But.blk HT2.out hb3 (by omega))
 have HB3:=hid (HB2.out.trans hb3)
 have HR3:=hid hr3
 clear hr3 hb3
 go_wp2_with fail
 refine (S2.out _ j HD2.out hj HR3.out).mono ?_
 rintro x w4 ⟨rfl,hr4,hb4⟩
 have HT4:=hid (But.blk HT3.out hb4 (by omega))
 have HB4:=hid (HB3.out.trans hb4)
 have HR4:=hid hr4
 clear hr4 hb4
 go_wp2_with fail
 refine (U2.out _ (j+3) HDT2.out.1 HDT2.out.2 HB4.out HR4.out).mono ?_
 rintro x w5 ⟨rfl,⟨k,hk,hkd,hr5⟩,hb5⟩
 have HT5:=hid (But.blk HT4.out hb5 (by omega))
 have HB5:=hid (HB4.out.trans hb5)
 have HR5:=hid hr5
 have HK:=hid hkd
 clear hr5 hb5 hkd
 have g0:=HT5.out.cell (i:=0) rfl
 have g1:=HT5.out.cell (i:=1) rfl
 have g2:=HT5.out.cell (i:=2) rfl
 have k0:=HT5.out.free 0
 have k1:=HT5.out.free 1
 have k2:=HT5.out.free 2
 go_wp2
 have HX:=fin_end (hT:=HT5.out) (v0:=.int .i64 5) (v1:=.string ⟨(t:List UInt8).toArray⟩) (v2:=.string ⟨([]:List UInt8).toArray⟩) (hq:=HR5.out) (hne:=by omega) (hB:=HB5.out) (hb:=Nat.le_refl _)
 obtain ⟨hx1,hx2,hx3⟩:=HX
 exact bodyPost_ret (v:=.tuple #[tmV (5:Nat) (t) ([]),.bool false]) (struct_ret2 rfl rfl hx1 Tryz.results209) rfl ⟨hx3,⟨5,t,[],rfl⟩,k,hk,hx2⟩
theorem plit_any (q:Nat) (l:List UInt8) (i:Nat) (w:World) (hE:ErrAt w) (hq:q≠4) (hr:Pr w q l i) (hl:l.length≤10000000) (hi:i≤l.length) :
  Calls Tryz.prog 209 #[rdp q] w (TermPost q l w (Tm.rlit (l.drop i))):=by
 cases h:Tm.upU 34 true (l.drop i) with
 | none=>exact plit_none q l i w hE hq hr hl hi h
 | some p=>
  obtain ⟨t,v⟩:=p
  by_cases h1:v.headD 0=64
  · exact plit_lang q l i w t v hE hq hr hl hi h h1
  · by_cases h2:v.take 3=[94,94,60]
    · cases h3:Tm.upU 62 false (v.drop 3) with
      | none=>exact plit_typed_no q l i w t v hE hq hr hl hi h h1 h2 h3
      | some p=>obtain ⟨y,z⟩:=p;exact plit_typed q l i w t v hE hq hr hl hi h y z h1 h2 h3
    · exact plit_plain q l i w t v hE hq hr hl hi h h1 h2
end Go.Proofs.YtjaebndajhppgaaGreatDoor
