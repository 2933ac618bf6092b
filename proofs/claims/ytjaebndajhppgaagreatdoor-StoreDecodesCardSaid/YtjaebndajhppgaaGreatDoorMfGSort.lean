/-GSort-/
import Derived.Test.YtjaebndajhppgaaGreatDoorMfHd1
import Derived.Test.YtjaebndajhppgaaGreatDoorMfGSt
import Derived.Test.YtjaebndajhppgaaGreatDoorMfGTri
set_option linter.unusedVariables false
set_option linter.unusedSimpArgs false
set_option maxRecDepth 100000
set_option maxHeartbeats 8000000
namespace Go.Proofs.YtjaebndajhppgaaGreatDoor
open Go.Proofs.Tryz
open Go.ChangeShapes Go.WideShapes Go.ChangeAt Go.RowKit Go.Sort Go.Lib
section
variable {α:Type} [Inhabited α] {enc:α→List Value} {cf:α→α→Int} {w:World} {blk off:Nat}
theorem QY (enc:α→List Value) (k:Nat) (w:World) (blk off m n:Nat) (dk d':Array α) (os os':Array Obj) (hb:blk<w.heap.size) (h:d'.size=dk.size) :
  sortWorldK enc k (sortWorldK enc k w blk off m dk os) blk off n d' os'=sortWorldK enc k w blk off (m+n) d' (os++os'):=by unfold sortWorldK;exact grow_step_growK enc k w os os' m n blk off dk d' hb h
theorem ac3 (hk:∀ x,(enc x).length=10) (h1:∀ x,∀ v∈enc x,v.oneCell'=true) (hS:SWO (ltOf cf)) (d:Array α) (g:Nat) (cb:Array Value) (eg:∀ args w,(callFunc g args).run prog w=.ok (.enter g args) w) (hcmp:CmpLays prog g cb enc 10 cf blk off d.size w) (hH:HoldsK enc 10 w blk off d) (hblk:blk<w.heap.size) (hsz:d.size<4611686018427387904)
  (cap a b m:Nat) (dk:Array α) (os:Array Obj) (hs:dk.size=d.size) (hab:a≤b) (hb:b≤d.size) :
  Calls prog 187 #[.slice (some ⟨blk,off,none⟩) d.size cap,.int .i64 a,.int .i64 b,.func (.func g) #[] cb] (sortWorldK enc 10 w blk off m dk os) fun e w'=>
   e=.returned (.tuple #[])∧∃ m' os',w'=sortWorldK enc 10 w blk off m' (Sort.insertionSort (ltOf cf) dk a b) os':=by have hz:=size_sortWorldK_c enc 10 w blk off m dk os;have h:=AnyQ.insertionSortCmpFunc Tryz.insShown 10 isAgg158 sizeOf158 enc hk h1 cf g cb blk off cap a b dk (sortWorldK enc 10 w blk off m dk os) eg (fun m2 os2 d2 hd2 x y=>by rw [QY enc 10 w blk off m m2 dk d2 os os2 hblk hd2];exact hcmp _ _ d2 (hd2.trans hs) x y) (holdsK_sortWorldK_c enc 10 w blk off d dk m os hH hblk hs) ak hab ak ak;change Calls prog 187 _ _ _ at h;rw [hs] at h;refine h.mono ?_;rintro e w' ⟨rfl,n,os',rfl⟩;refine ⟨rfl,m+n,os++os',?_⟩;rw [QY enc 10 w blk off m n dk _ os os' hblk ?_];exact (insertionSort_holds hS dk a b hab ak).1.1
theorem ac4 (hk:∀ x,(enc x).length=10) (h1:∀ x,∀ v∈enc x,v.oneCell'=true) (hS:SWO (ltOf cf)) (d:Array α) (g:Nat) (cb:Array Value) (eg:∀ args w,(callFunc g args).run prog w=.ok (.enter g args) w) (hcmp:CmpLays prog g cb enc 10 cf blk off d.size w) (hH:HoldsK enc 10 w blk off d) (hblk:blk<w.heap.size) (hsz:d.size≤1000000000) (cap:Nat) :
  Calls prog 144 #[.slice (some ⟨blk,off,none⟩) d.size cap,.int .i64 d.size,.func (.func g) #[] cb] w fun e w'=>
   e=.returned (.tuple #[])∧∃ m' d',(∃ os',w'=sortWorldK enc 10 w blk off m' d' os')∧d'.size=d.size∧PermIn 0 d.size d d'∧SortedIn (ltOf cf) 0 d.size d':=by
 have IN:=aj (fun a b m dk os hs hab hb=>ac3 hk h1 hS d g cb eg hcmp hH hblk ak cap a b m dk os hs hab hb);have SY:=aj (fun a mid b m dk os hs h2 h3 h4 h5 h6=>QX acW hk h1 hS d g cb eg hcmp hH hblk ak (b-a) a mid b m cap dk os aF hs h2 h3 h4 h5 h6);have SW:=aj hS;have HW0:=aj (show w=sortWorldK enc 10 w blk off 0 d #[] by unfold sortWorldK;rw [grow_empty];exact (putRowK_self enc 10 w blk off d hH).symm);clear hcmp hH hk h1 hS;obtain ⟨n,hn⟩:=aB d.size;rw [←hn] at IN SY hsz ⊢;have HN:=aj hn;clear hn;go_enter func144,ntmps144;go_wp2;go_loopg [7,8] (n+1) (fun gg v7 v8 wr=>∃ (q A m':Nat) (dk:Array α) (os':Array Obj),v7=.int .i64 A∧v8=.int .i64 ((A+20:Nat):Int)∧A≤n∧n+1-A≤gg∧Hid (A=q*20)∧Hid (wr=sortWorldK enc 10 w blk off m' dk os')∧Hid (dk.size=n)∧Hid (PermIn 0 n d dk)∧Hid (St.aC (ltOf cf) 20 A dk))
 case atStart=>exact ⟨0,0,0,d,#[],aN,aN,Nat.zero_le _,Nat.le_refl _,by show _=_;rfl,HW0.out,HN.out.symm,permIn_refl _ _ _,fun q i j h1 h2 h3=>ak⟩
 case round=>
  obtain ⟨q,A,m',dk,os',rfl,rfl,hAn,hg,HA,HW,HZ,HP,HB⟩:=hrel;by_cases hlt:A+20≤n
  · have hltz:(A:Int)+20≤(n:Int):=ak;have w1:IntKind.i64.wrap ((A:Int)+20+20)=(A:Int)+20+20:=(by rw [IntKind.wrap_i64];omega);have zW:=aj (IN.out A (A+20) m' dk os' (HZ.out) ak hlt);rw [←HW.out] at zW;(go_wp2_with fail);refine zW.out.mono ?_;rintro e w3 ⟨rfl,m3,os3,hw3⟩;have HW3:=aj hw3;clear hw3;have HI:=aj (insertionSort_holds SW.out dk A (A+20) ak (by have:=HZ.out;omega));go_wp2;go_roundg (n-A)
    (case measure=>omega);case rel=>refine ⟨q+1,A+20,m3,_,os3,aN,aN,hlt,ak,by show _=_;have:=HA.out;omega,HW3.out,HI.out.1.1.trans HZ.out,permIn_trans _ _ _ _ _ HP.out (permIn_mono _ _ A (A+20) 0 n (Nat.zero_le _) hlt (by have:=HZ.out;omega) HI.out.1),?_⟩;have hA:=HA.out;have hB:=HB.out;have hI:=HI.out;show St.aC _ _ _ _;rw [hA] at hB hI ⊢;exact St.zP hB aF hI.1 hI.2
  · have hltz:¬ (A:Int)+20≤(n:Int):=ak;have zW:=aj (IN.out A n m' dk os' (HZ.out) hAn aF);rw [←HW.out] at zW;(go_wp2_with fail);refine zW.out.mono ?_;rintro e w3 ⟨rfl,m3,os3,hw3⟩;have HW3:=aj hw3;clear hw3;have HI:=aj (insertionSort_holds SW.out dk A n hAn (by have:=HZ.out;omega));have nC:=aj (permIn_trans _ _ _ _ _ HP.out (permIn_mono _ _ A n 0 n (Nat.zero_le _) aF (by have:=HZ.out;omega) HI.out.1));have HZ3:=aj (HI.out.1.1.trans HZ.out);have HB3:=aj (show St.aC (ltOf cf) 20 n (insertionSort (ltOf cf) dk A n) by have hA:=HA.out;have hB:=HB.out;have hI:=HI.out;rw [hA] at hB hI ⊢;exact St.zP hB ak hI.1 hI.2);clear HI HB HP HZ HW HA;obtain ⟨d3,hd3⟩:=aB (insertionSort (ltOf cf) dk A n);rw [←hd3] at HW3 nC HZ3 HB3;clear hd3;go_wp2;go_loopg [6] (n-20+1) (fun gg v6 wr=>∃ (s m':Nat) (dk:Array α) (os':Array Obj),v6=.int .i64 s∧20≤s∧n-s+1≤gg∧s≤2*n+20∧Hid (wr=sortWorldK enc 10 w blk off m' dk os')∧Hid (dk.size=n)∧Hid (PermIn 0 n d dk)∧Hid (St.aC (ltOf cf) s n dk))
    (case atStart=>exact ⟨20,m3,d3,os3,aN,Nat.le_refl _,Nat.le_refl _,ak,HW3.out,HZ3.out,nC.out,HB3.out⟩);case round=>
     obtain ⟨s,m4,d4,qK,rfl,aiU,hg4,hs2,qL,zU,jw,aT⟩:=hrel;by_cases hsn:s<n
     · have ac5:(s:Int)<(n:Int):=ak;obtain ⟨t,ht⟩:=aB (2*s);have et:2*(s:Int)=(t:Int):=ak;have et2:(s:Int)*2=(t:Int):=ak;have wt:IntKind.i64.wrap (t:Int)=(t:Int):=(by rw [IntKind.wrap_i64];omega);have HT:=aj ht;have ht1:t≤2*n:=ak;clear ht;go_wp2;go_loopg [7,8] (n+1) (fun gg v7 v8 wr=>∃ (q A B m':Nat) (dk:Array α) (os':Array Obj),v7=.int .i64 A∧v8=.int .i64 B∧A≤n∧n+1-A≤gg∧Hid (A=q*(2*s)∧B=A+t)∧Hid (wr=sortWorldK enc 10 w blk off m' dk os')∧Hid (dk.size=n)∧Hid (PermIn 0 n d dk)∧Hid (St.Half (ltOf cf) s q n dk))
       (case atStart=>exact ⟨0,0,t,m4,d4,qK,aN,aN,Nat.zero_le _,Nat.le_refl _,by show _∧_;exact ⟨ak,ak⟩,qL.out,zU.out,jw.out,St.half_start aT.out⟩);case round=>
        obtain ⟨q,A,B,m5,d5,zV,rfl,rfl,aiV,hg5,lu,IE,uM,uN,aO⟩:=hrel;obtain ⟨M,hM⟩:=aB (A+s);have eM:(A:Int)+(s:Int)=(M:Int):=ak;have wM:IntKind.i64.wrap (M:Int)=(M:Int):=(by rw [IntKind.wrap_i64];omega);have HM:=aj hM;clear hM;by_cases IG:B≤n
        · have ac6:(B:Int)≤(n:Int):=ak;obtain ⟨B2,hB2⟩:=aB (B+t);have eB2:(B:Int)+(t:Int)=(B2:Int):=ak;have wB2:IntKind.i64.wrap (B2:Int)=(B2:Int):=(by rw [IntKind.wrap_i64];omega);have HB2:=aj hB2;clear hB2;have zX:=aj (St.acR aO.out (by have:=lu.out;have:=HT.out;omega));have zY:=aj (SY.out A M B m5 d5 zV uM.out (by have:=HM.out;omega) (by have:=HM.out;have:=lu.out;have:=HT.out;omega) IG
           (by have h:=zX.out.1;rw [HM.out,lu.out.1];exact h) (by have h:=zX.out.2;rw [HM.out,lu.out.2,lu.out.1,HT.out];exact h))
          rw [←IE.out] at zY;(go_wp2_with fail);refine zY.out.mono ?_;rintro e w6 ⟨rfl,m6,d6,⟨II,dK⟩,jf,sF,hs6⟩;have H6:=aj (And.intro dK (And.intro jf (And.intro sF hs6)));clear dK jf sF hs6;go_wp2;go_roundg (n-A)
          (case measure=>omega);case rel=>have zZ:=lu.out;have hT:=HT.out;have h6:=H6.out;refine ⟨q+1,B,B2,m6,d6,II,rfl,rfl,IG,ak,by show _∧_;refine ⟨?_,by have:=HB2.out;omega⟩;rw [Nat.add_mul];omega,h6.1,h6.2.1,permIn_trans _ _ _ _ _ uN.out (permIn_mono _ _ A B 0 n (Nat.zero_le _) IG (by have:=uM.out;omega) h6.2.2.1),?_⟩;have hp:=h6.2.2.1;have hs:=h6.2.2.2;rw [zZ.2,zZ.1,hT] at hp hs;exact St.acS aO.out hp hs
        · have ac6:¬ (B:Int)≤(n:Int):=ak;by_cases hMn:M<n
          · have ac7:(M:Int)<(n:Int):=ak;have zX:=aj (St.acT aO.out (by have:=lu.out;have:=HM.out;omega) (by have:=lu.out;have:=HT.out;omega));have zY:=aj (SY.out A M n m5 d5 zV uM.out (by have:=HM.out;omega) hMn aF
             (by have h:=zX.out.1;rw [HM.out,lu.out.1];exact h) (by have h:=zX.out.2;rw [HM.out,lu.out.1];exact h))
            rw [←IE.out] at zY;(go_wp2_with fail);refine zY.out.mono ?_;rintro e w6 ⟨rfl,m6,d6,⟨II,dK⟩,jf,sF,hs6⟩;have H6:=aj (And.intro dK (And.intro jf (And.intro sF hs6)));clear dK jf sF hs6;go_wp2;go_roundg (n-t+1)
            (case measure=>have:=HT.out;omega);case rel=>have zZ:=lu.out;have hT:=HT.out;have h6:=H6.out;refine ⟨t,m6,d6,II,rfl,ak,ak,ak,h6.1,h6.2.1,permIn_trans _ _ _ _ _ uN.out (permIn_mono _ _ A n 0 n (Nat.zero_le _) aF (by have:=uM.out;omega) h6.2.2.1),?_⟩;have hp:=h6.2.2.1;have hs:=h6.2.2.2;rw [zZ.1] at hp hs;show St.aC _ _ _ _;rw [hT];exact St.acV aO.out ak hp hs
          · have ac7:¬ (M:Int)<(n:Int):=ak;go_wp2;go_roundg (n-t+1)
            (case measure=>have:=HT.out;omega);case rel=>have zZ:=lu.out;have hT:=HT.out;have hM:=HM.out;refine ⟨t,m5,d5,zV,rfl,ak,ak,ak,IE.out,uM.out,uN.out,?_⟩;show St.aC _ _ _ _;rw [hT];exact St.acU aO.out ak ak
     · have ac5:¬ (s:Int)<(n:Int):=ak;go_wp2;go_end0
       exact ⟨rfl,m4,d4,⟨qK,qL.out⟩,zU.out,jw.out,St.acQ aT.out ak⟩
theorem ac8 (hk:∀ x,(enc x).length=10) (h1:∀ x,∀ v∈enc x,v.oneCell'=true) (hS:SWO (ltOf cf)) (d:Array α) (g:Nat) (cb:Array Value) (eg:∀ args w,(callFunc g args).run prog w=.ok (.enter g args) w) (hcmp:CmpLays prog g cb enc 10 cf blk off d.size w) (hH:HoldsK enc 10 w blk off d) (hblk:blk<w.heap.size) (hsz:d.size≤1000000000) (cap:Nat) :
  Calls prog 95 #[.slice (some ⟨blk,off,none⟩) d.size cap,.func (.func g) #[] cb] w fun e w'=>
   e=.returned (.tuple #[])∧∃ m' d',(∃ os',w'=sortWorldK enc 10 w blk off m' d' os')∧d'.size=d.size∧PermIn 0 d.size d d'∧SortedIn (ltOf cf) 0 d.size d':=by
 have ST:=aj (ac4 hk h1 hS d g cb eg hcmp hH hblk hsz cap);clear hcmp hH hk h1 hS;go_enter func95,ntmps95;go_wp2_with fail
 refine ST.out.mono ?_;rintro e w6 ⟨rfl,m6,d6,dK,jf,sF,hs6⟩;have H6:=aj (And.intro dK (And.intro jf (And.intro sF hs6)));clear dK jf sF hs6;go_wp2;go_end0
 exact ⟨rfl,m6,d6,H6.out.1,H6.out.2.1,H6.out.2.2.1,H6.out.2.2.2⟩
end
theorem ac9 (a:Option Addr) (c:Nat) (f:Value) (w:World):Calls prog 187 #[.slice a 0 c,.int .i64 0,.int .i64 0,f] w fun e w'=>e=.returned (.tuple #[])∧w'=w:=by
 go_enter func187,ntmps187;go_wp2;refine wp_loop_rounds 1 ?_;rw [rounds_succ];go_wp2;go_end0
 exact ⟨rfl,rfl⟩
theorem ac_ (a:Option Addr) (c:Nat) (f:Value) (w:World):Calls prog 144 #[.slice a 0 c,.int .i64 0,f] w fun e w'=>e=.returned (.tuple #[])∧w'=w:=by
 have IN:=aj (fun w=>ac9 a c f w);go_enter func144,ntmps144;go_wp2;refine wp_loop_rounds 1 ?_;rw [rounds_succ];go_wp2_with fail
 refine (IN.out _).mono ?_;rintro e w1 ⟨rfl,hw⟩;subst hw;go_wp2;refine wp_loop_rounds 1 ?_;rw [rounds_succ];go_wp2;go_end0
 exact ⟨rfl,rfl⟩
theorem QZ (a:Option Addr) (c:Nat) (f:Value) (w:World):Calls prog 95 #[.slice a 0 c,f] w fun e w'=>e=.returned (.tuple #[])∧w'=w:=by
 have IN:=aj (fun w=>ac_ a c f w);go_enter func95,ntmps95;go_wp2_with fail
 refine (IN.out _).mono ?_;rintro e w1 ⟨rfl,hw⟩;subst hw;go_wp2;go_end0
 exact ⟨rfl,rfl⟩
theorem ada (f:Value) (w:World):Calls prog 95 #[.slice none 0 0,f] w fun e w'=>e=.returned (.tuple #[])∧w'=w:=QZ none 0 f w
open Go.ChangeShapes Go.WideShapes Go.ChangeAt Go.RowKit
theorem z_ (w:World):(zeroValue 142).run prog w=.ok (.agg #[]) w:=aG
theorem En {w w':World} {b n:Nat} {D:DataW Unit} (h:w.ownsMap prog 67 Go.unitElem b n D) (hb:Below w.heap.size w w'):w'.ownsMap prog 67 Go.unitElem b n D:=
 h.kept (row:=none) ⟨hb.os,hb.tape,hb.output,hb.size,fun k hk _=>hb.block k hk⟩ aI
theorem wP {w w':World} {B n sz:Nat} {t:TypeId} {v:Value} {xs:List Value} (h:w.ownsRow B t sz v n xs) (hb:Below w.heap.size w w'):w'.ownsRow B t sz v n xs:=
 h.kept (row:=none) ⟨hb.os,hb.tape,hb.output,hb.size,fun k hk _=>hb.block k hk⟩ (by cases v.ownBlock <;> simp)
theorem Aa {t:TR} (h:Tm.aZ t=true):qo t:=by obtain ⟨_,_,a1,a2,a3⟩:=Tm.qp h;have b1:=Tm.gQ a1;have b2:=Tm.gQ a2;have b3:=Tm.gQ a3;obtain ⟨n1,e1,_,f1⟩:=Tm.gZ a1;obtain ⟨n2,e2,_,f2⟩:=Tm.gZ a2;obtain ⟨n3,e3,_,f3⟩:=Tm.gZ a3;exact ⟨⟨ak,ak,ak⟩,⟨ak,ak,ak⟩,ak,ak,ak⟩
def pq (t:TR):List Value:=[aA (Tm.aS t.1.1 t.1.2.1 t.1.2.2),aA (Tm.aS t.2.1.1 t.2.1.2.1 t.2.1.2.2),aA (Tm.aS t.2.2.1 t.2.2.2.1 t.2.2.2.2)]
def gL (p:TR×Nat):List Value:=(aV p.1).cells++[.slice (some ⟨p.2,0,none⟩) 3 3]
def nD (D:List (TR×Nat)):List Value:=D.flatMap gL
theorem adb (D:List (TR×Nat)) (p:TR×Nat):nD (D++[p])=nD D++gL p:=by simp [nD]
theorem sG (p:TR×Nat):(gL p).length=10:=rfl
def jh (w:World) (v:Value) (D:List (TR×Nat)):Prop:=∀ p∈D,aC w p.2 (pq p.1) 9∧v.ownBlock≠some p.2
theorem jh.keep {w w':World} {v:Value} {D:List (TR×Nat)} (h:jh w v D) (hb:Below w.heap.size w w'):jh w' v D:=fun p hp=>⟨(h p hp).1.keep hb,(h p hp).2⟩
theorem jh.moved {w w':World} {v v':Value} {D:List (TR×Nat)} (h:jh w v D) (hg:w.grownBy w' v.ownBlock) (hm:Moved w v v'):jh w' v' D:=fun p hp=>by obtain ⟨h1,h2⟩:=h p hp;have hlt:=h1.lt;refine ⟨?_,?_⟩;{unfold aC at h1 ⊢;rw [hg.block p.2 hlt (fun e=>h2 e.symm)];exact h1};{rcases hm with e | ⟨k,e,hk⟩;{rw [e];exact h2};{rw [e];intro h;cases h;omega}}
theorem jh.snoc {w:World} {v:Value} {D:List (TR×Nat)} (h:jh w v D) {p:TR×Nat} (h1:aC w p.2 (pq p.1) 9) (h2:v.ownBlock≠some p.2):jh w v (D++[p]):=fun q hq=>by rcases List.mem_append.1 hq with hq | hq;{exact h q hq};{rw [List.mem_singleton.1 hq];exact ⟨h1,h2⟩}
theorem ade:∃ i,prog.info? 158=some i∧(∃ z,i.zero=some z∧z.cells.size=10)∧i.size=10∧i.bytes=144:=by have h:(prog.info? 158).map (fun i=>(i.zero.map (fun z=>z.cells.size),i.size,i.bytes))=some (some 10,10,144):=aG;obtain ⟨i,hi,h⟩:=Option.map_eq_some_iff.1 h;simp only [Prod.mk.injEq] at h;obtain ⟨z,hz,hz2⟩:=Option.map_eq_some_iff.1 h.1;exact ⟨i,hi,⟨z,hz,hz2⟩,h.2.1,h.2.2⟩
theorem Q0 {w:World} {b n:Nat} {D:DataW Unit} (h:w.ownsMap prog 67 Go.unitElem b n D) {p:Nat} {A:List Value} {t:TypeId} (hp:aC w p A t):p≠b:=by obtain ⟨es,clock,hb,_⟩:=h;unfold aC at hp;rintro rfl;rw [hp] at hb;cases hb
theorem jh.map {w w':World} {v:Value} {D:List (TR×Nat)} {b:Nat} (h:jh w v D) (hg:w.grownBy w' (some b)) (hb:∀ p∈D,p.2≠b):jh w' v D:=fun p hp=>by obtain ⟨h1,h2⟩:=h p hp;have hlt:=h1.lt;refine ⟨?_,h2⟩;unfold aC at h1 ⊢;rw [hg.block p.2 hlt (fun e=>hb p hp (Option.some.inj e))];exact h1
theorem aC.map {w w':World} {b q:Nat} {A:List Value} {t:TypeId} (h:aC w q A t) (hg:w.grownBy w' (some b)) (hb:q≠b):aC w' q A t:=by have hlt:=h.lt;unfold aC at h ⊢;rw [hg.block q hlt (fun e=>hb (Option.some.inj e))];exact h
theorem Q5 {acc:List TR} {t:TR} (h:decide (t∈acc)=false):Tm.jJ acc t=acc++[t]:=by unfold Tm.jJ;rw [if_neg (of_decide_eq_false h)]
theorem adf {acc:List TR} {t:TR} (h:decide (t∈acc)=true):Tm.jJ acc t=acc:=by unfold Tm.jJ;rw [if_pos (of_decide_eq_true h)]
theorem Q6 (p:TR×Nat):∀ u∈gL p,u.oneCell'=true:=by intro u hu;simp [gL,dZ.cells,aV] at hu;rcases hu with rfl | rfl | rfl | rfl | rfl | rfl | rfl | rfl | rfl | rfl <;> rfl
theorem adg (W:World) (p:TR×Nat):∀ ad,some (⟨W.heap.size,0,none⟩:Addr)=some ad→∀ j u,(gL p)[j]?=some u→(W.alloc (.cells (gL p).toArray 158)).cell? (ad.add j)=some u:=by intro ad had j u hu;cases had;rw [gG rfl,Nat.zero_add,fD,←Array.getElem?_toList];exact hu
theorem Q7 (t:TR) (h:Tm.aZ t=true) (W:World):Calls prog 94 #[qm t] W fun e w'=>∃ b,e=.returned (.slice (some ⟨b,0,none⟩) 3 3)∧W.heap.size≤b∧aC w' b (pq t) 9∧Below W.heap.size W w':=by obtain ⟨_,_,a1,a2,a3⟩:=Tm.qp h;obtain ⟨n1,e1,f1,g1⟩:=Tm.gZ a1;obtain ⟨n2,e2,f2,g2⟩:=Tm.gZ a2;obtain ⟨n3,e3,f3,g3⟩:=Tm.gZ a3;have b1:=Tm.gQ a1;have b2:=Tm.gQ a2;have b3:=Tm.gQ a3;have:=NU (t.1.1:Nat) t.1.2.1 t.1.2.2 (t.2.1.1:Nat) t.2.1.2.1 t.2.1.2.2 (t.2.2.1:Nat) t.2.2.2.1 t.2.2.2.2 W ak ak ak ak ak ak;rw [Tm.Cm ak,Tm.Cm ak,Tm.Cm ak] at this;exact this
theorem IJ {w:World} {b n:Nat} {D:DataW Unit} (h:w.ownsMap prog 67 Go.unitElem b n D):w.ownsMap prog 67 Go.unitElem b (n+1) D:=by obtain ⟨es,clock,hb,F,hs,hD⟩:=h;exact ⟨es,clock,hb,F,ak,hD⟩
theorem adh {w w6 w7 w8:World} {u3 v8:Value} {n1:Nat} {M:DataW Unit} {D:List (TR×Nat)} {t:TR} {b7:Nat} {o:Obj} (aU:Below w.heap.size w w6) (uO:w6.ownsMap prog 67 Go.unitElem w.heap.size n1 M) (dP:jh w6 u3 D) (bS:Below w6.heap.size w6 w7) (qM:w6.heap.size≤b7) (gq:aC w7 b7 (pq t) 9)
  (lZ:∀ k,u3.ownBlock=some k→w.heap.size+1≤k) (hol:∀ k,u3.ownBlock=some k→k<w6.heap.size) (G1:w8.ownsRow (w.heap.size+1) 158 10 v8 (D.length+1) (nD D++gL (t,b7))) (G2:(w7.alloc o).grownBy w8 u3.ownBlock) (G3:Moved (w7.alloc o) u3 v8) :
  Below w.heap.size w w8∧w8.ownsMap prog 67 Go.unitElem w.heap.size n1 M∧w8.ownsRow (w.heap.size+1) 158 10 v8 (D++[(t,b7)]).length (nD (D++[(t,b7)]))∧jh w8 v8 (D++[(t,b7)]):=by have IK:=aJ aU bS;refine ⟨(IK.alloc IK.size o).grown G2 (by have:=IK.size;simp;omega) (fun k hk=>by have:=lZ k hk;omega),((En uO bS).alloc o).kept G2 (fun e=>by have:=lZ _ e.symm;omega),?_,?_⟩;{rw [List.length_append,adb];exact G1};{have h1:jh (w7.alloc o) u3 D:=(dP.keep bS).keep ((Below.refl _ _).alloc aF _);exact (h1.snoc (p:=(t,b7)) (gq.alloc o) (fun e=>by have:=hol _ e;omega)).moved G2 G3}
theorem adi {L:List TR} {i:Nat} (hi:i<L.length):Tm.jK [] (L.take (i+1))=Tm.jJ (Tm.jK [] (L.take i)) L[i]:=by rw [List.take_add_one,List.getElem?_eq_getElem hi];unfold Tm.jK;rw [List.foldl_append];rfl
theorem Q8 (L:List TR) (i:Nat):(Tm.jK [] (L.take i)).length≤i:=by
 have:∀ (l a:List TR),(Tm.jK a l).length≤a.length+l.length:=by
  intro l;induction l with
  | nil=>intro a;simp [Tm.jK]
  | cons t l ih=>intro a;have h1:=ih (Tm.jJ a t);have h2:=Tm.ZI a t;show (Tm.jK (Tm.jJ a t) l).length≤_;rw [List.length_cons];omega
 have h:=this (L.take i) [];have h2:=List.length_take_le i L;simp only [List.length_nil] at h;omega
open Go.Sort Go.Lib
theorem Q9:∀ (D:List (TR×Nat)) (i c:Nat) (hi:i<D.length),c<10→(nD D)[i*10+c]?=(gL D[i])[c]?
 | [],i,c,hi,_=>by simp at hi
 | p::D,0,c,hi,hc=>by
  show (gL p++nD D)[0*10+c]?=_
  rw [List.getElem?_append_left (by rw [sG];omega),Nat.zero_mul,Nat.zero_add];rfl
 | p::D,i+1,c,hi,hc=>by
  show (gL p++nD D)[(i+1)*10+c]?=_
  rw [List.getElem?_append_right (by rw [sG];omega),sG,show (i+1)*10+c-10=i*10+c by omega]
  exact Q9 D i c (by simpa using hi) hc
theorem Q_ {α:Type} [Inhabited α] (enc:α→List Value) (k:Nat) {w:World} {blk off n j:Nat} {d:Array α} {os:Array Obj} (hk:j<w.heap.size) (hne:j≠blk):(sortWorldK enc k w blk off n d os).heap[j]?=w.heap[j]?:=by unfold sortWorldK;rw [Go.Sort.heap_grow_old _ _ (by show j<(putRow id (Go.Sort.ahead w n) blk off _).heap.size;simp [putRow,mapBlock,Go.Sort.ahead];exact hk)];show (putRow id (Go.Sort.ahead w n) blk off _).heap[j]?=_;simp only [putRow,mapBlock,Array.getElem?_modify];rw [if_neg (fun e=>hne e.symm)];rfl
theorem adj {α:Type} [Inhabited α] (enc:α→List Value) (k:Nat) {B:Nat} {w0 w:World} {blk off n:Nat} {d:Array α} {os:Array Obj} (h:Below B w0 w) (hB:B≤blk) (hw:B≤w.heap.size):Below B w0 (sortWorldK enc k w blk off n d os):=by have hz:w.heap.size≤(sortWorldK enc k w blk off n d os).heap.size:=size_sortWorldK_c enc k w blk off n d os;exact ⟨h.os,h.tape,h.output,Nat.le_trans h.size hz,fun j hj=>by rw [Q_ enc k ak ak];exact h.block j hj⟩
theorem adk (p q:TR×Nat) (W:World) (hp:aC W p.2 (pq p.1) 9) (hq:aC W q.2 (pq q.1) 9) :
  Calls prog 96 #[.agg (gL p).toArray,.agg (gL q).toArray] W fun e w'=>e=.returned (.int .i64 (Tm.bQ p.1 q.1))∧∃ os',w'=grow W os':=by
 obtain ⟨⟨⟨n1,t1,x1⟩,⟨n2,t2,x2⟩,n3,t3,x3⟩,b⟩:=p;obtain ⟨⟨⟨m1,u1,y1⟩,⟨m2,u2,y2⟩,m3,u3,y3⟩,c⟩:=q;have HW:=aj (show (W.alloc (.cells (gL (((n1,t1,x1),(n2,t2,x2),n3,t3,x3),b)).toArray 158)).alloc (.cells (gL (((m1,u1,y1),(m2,u2,y2),m3,u3,y3),c)).toArray 158)=grow W (#[.cells (gL (((n1,t1,x1),(n2,t2,x2),n3,t3,x3),b)).toArray 158]++#[.cells (gL (((m1,u1,y1),(m2,u2,y2),m3,u3,y3),c)).toArray 158]) by rw [alloc_eq_grow,alloc_eq_grow,grow_grow]);have SC:=aj (fun W h1 h2=>ZO b c (Tm.aS n1 t1 x1) (Tm.aS n2 t2 x2) (Tm.aS n3 t3 x3) (Tm.aS m1 u1 y1) (Tm.aS m2 u2 y2) (Tm.aS m3 u3 y3) W h1 h2);have HP:=aj (show aC W b [aA (Tm.aS n1 t1 x1),aA (Tm.aS n2 t2 x2),aA (Tm.aS n3 t3 x3)] 9 from hp);have HQ:=aj (show aC W c [aA (Tm.aS m1 u1 y1),aA (Tm.aS m2 u2 y2),aA (Tm.aS m3 u3 y3)] 9 from hq);obtain ⟨r,hr⟩:=aB (Tm.jI (Tm.aS n1 t1 x1) (Tm.aS n2 t2 x2) (Tm.aS n3 t3 x3) (Tm.aS m1 u1 y1) (Tm.aS m2 u2 y2) (Tm.aS m3 u3 y3));have HR:=aj (show Tm.bQ ((n1,t1,x1),(n2,t2,x2),n3,t3,x3) ((m1,u1,y1),(m2,u2,y2),m3,u3,y3)=r from hr.symm);rw [←hr] at SC;rw [HR.out];clear hp hq hr;show Calls prog 96 #[.agg #[.int .i64 (n1:Nat),aA t1,aA x1,.int .i64 (n2:Nat),aA t2,aA x2,.int .i64 (n3:Nat),aA t3,aA x3,.slice (some ⟨b,0,none⟩) 3 3],.agg #[.int .i64 (m1:Nat),aA u1,aA y1,.int .i64 (m2:Nat),aA u2,aA y2,.int .i64 (m3:Nat),aA u3,aA y3,.slice (some ⟨c,0,none⟩) 3 3]] W _;go_enter func96,ntmps96;go_wp2_with fail
 refine (SC.out _ ((HP.out.alloc _).alloc _) ((HQ.out.alloc _).alloc _)).mono ?_;rintro e w3 ⟨rfl,hw3⟩;subst hw3;go_wp2;go_ret;exact ⟨rfl,_,HW.out⟩
def ShAt (W:World) (v:Value) (S:List (TR×Nat)):Prop:=∃ (a:Option Addr) (cap:Nat),v=.slice a S.length cap∧(S.length=0∨∃ g,a=some ⟨g,0,none⟩∧∀ i (h:i<S.length) c,c<10→W.cell? ⟨g,i*10+c,none⟩=(gL S[i])[c]?)
section
variable {N:Nat}
def encR (r:Fin (N+1)→TR×Nat) (i:Fin (N+1)):List Value:=gL (r i)
def wQ (r:Fin (N+1)→TR×Nat) (i j:Fin (N+1)):Int:=Tm.bQ (r i).1 (r j).1
theorem Ra {r:Fin (N+1)→TR×Nat} {i j:Fin (N+1)} (h:ltOf (wQ r) i j=true):Tm.bQ (r i).1 (r j).1<0:=of_decide_eq_true h
theorem IL {r:Fin (N+1)→TR×Nat} {i j:Fin (N+1)} (h:ltOf (wQ r) i j=false):0≤Tm.bQ (r i).1 (r j).1:=by have h1:¬ Tm.bQ (r i).1 (r j).1<0:=of_decide_eq_false h;omega
theorem Rb {r:Fin (N+1)→TR×Nat} {i j:Fin (N+1)} (h:0≤Tm.bQ (r i).1 (r j).1):ltOf (wQ r) i j=false:=by have h1:¬ Tm.bQ (r i).1 (r j).1<0:=ak;exact decide_eq_false h1
theorem adl (r:Fin (N+1)→TR×Nat):SWO (ltOf (wQ r)) where
 irrefl x:=Rb (by
  have:=Tm.nQ (r x).1 (r x).1
  omega)
 trans x y z h1 h2:=decide_eq_true (Tm.Gu (Ra h1) (Ra h2))
 ntrans x y z h1 h2:=Rb (by
  have b1:=IL h1
  have b2:=IL h2
  have a1:=Tm.nQ (r x).1 (r y).1
  have a2:=Tm.nQ (r y).1 (r z).1
  have a3:=Tm.nQ (r x).1 (r z).1
  have:=Tm.Gt (p:=(r z).1) (q:=(r y).1) (r:=(r x).1) ak ak
  omega)
theorem adn (r:Fin (N+1)→TR×Nat) (g n:Nat) (w:World) (hT:∀ i,aC w (r i).2 (pq (r i).1) 9∧(r i).2≠g):CmpLays prog 96 #[] (encR r) 10 (wQ r) g 0 n w:=by
 intro m os dk hdk x y;have hb:∀ i,aC (sortWorldK (encR r) 10 w g 0 m dk os) (r i).2 (pq (r i).1) 9:=fun i=>by have h:=(hT i).1;have hlt:=h.lt;unfold aC at h ⊢;rw [Q_ (encR r) 10 hlt (hT i).2];exact h
 have:=adk (r x) (r y) _ (hb x) (hb y);simp only [Array.append_empty];refine this.mono ?_;rintro e w' ⟨rfl,os',rfl⟩;exact ⟨rfl,0,os',rfl⟩
end
theorem ado {a:List TR} {t:TR} (h:a.Nodup):(Tm.jJ a t).Nodup:=by unfold Tm.jJ;split;{exact h};{rename_i hn;rw [List.nodup_append];refine ⟨h,aI,fun x hx y hy=>?_⟩;rw [List.mem_singleton.1 hy];rintro rfl;exact hn hx}
theorem adp (L:List TR):(Tm.jK [] L).Nodup:=by
 have:∀ (l a:List TR),a.Nodup→(Tm.jK a l).Nodup:=by
  intro l;induction l with
  | nil=>intro a h;exact h
  | cons t l ih=>intro a h;exact ih _ (ado h)
 exact this L [] List.nodup_nil
theorem adq (L:List TR) (hl:∀ t∈L,Tm.aZ t=true) (D:List (TR×Nat)) (hD:D.map (·.1)=Tm.jK [] L) (B:Nat) (w:World) (u:Value) (HR:w.ownsRow B 158 10 u D.length (nD D)) (HT:jh w u D) (hlen:D.length≤1000000) :
  Calls prog 95 #[u,.func (.func 96) #[] #[]] w fun e w'=>e=.returned (.tuple #[])∧∃ S:List (TR×Nat),ShAt w' u S∧S.map (·.1)=Tm.gu L∧S.length=D.length∧(∀ B0 w0,Below B0 w0 w→B0≤B→B0≤w.heap.size→Below B0 w0 w'):=by
 have hmem:∀ t,t∈D.map (·.1)↔t∈L:=fun t=>by rw [hD,Tm.Gr];simp
 rcases HR.2 with ⟨hu,hD0⟩ | ⟨g,cp,cur,hu,hg,hcur,hcp,hcm,hcs,htk⟩;{subst hu;refine (ada _ _).mono ?_;rintro e w' ⟨rfl,hw⟩;subst hw;have hDn:D=[]:=List.eq_nil_of_length_eq_zero hD0;subst hDn;refine ⟨rfl,[],⟨none,0,rfl,.inl rfl⟩,?_,rfl,fun B0 w0 h _ _=>h⟩;exact Tm.yT hl List.Pairwise.nil hmem};{rcases Nat.eq_zero_or_pos D.length with h0 | hpos;{have hDn:D=[]:=List.eq_nil_of_length_eq_zero h0;subst hDn;rw [hu];refine (QZ _ _ _ _).mono ?_;rintro e w' ⟨rfl,hw⟩;subst hw;refine ⟨rfl,[],⟨_,_,rfl,.inl rfl⟩,?_,rfl,fun B0 w0 h _ _=>h⟩;exact Tm.yT hl List.Pairwise.nil hmem};{obtain ⟨N,hN⟩:∃ N,D.length=N+1:=⟨D.length-1,ak⟩;have hgl:g<w.heap.size:=(HR.lt g (by rw [hu];rfl)).2;let r:Fin (N+1)→TR×Nat:=fun i=>D[i.1]'ak;have hrD:∀ i (hi:i<N+1),r ⟨i,hi⟩=D[i]'ak:=fun i hi=>rfl;let d:Array (Fin (N+1)):=Array.ofFn fun i=>i;have hds:d.size=N+1:=(by simp [d]);have hdi:∀ i (hi:i<N+1),d[i]! = ⟨i,hi⟩:=fun i hi=>(by rw [getElem!_pos d i (by rw [hds];exact hi)];simp [d]);have IQ:=HR;rw [hu] at IQ;have hH:HoldsK (encR r) 10 w g 0 d:=(by intro j hj;have hj':j<D.length*10:=(by rw [hN];simpa [hds] using hj);have hq:j / 10<N+1:=ak;rw [Nat.zero_add];refine ⟨?_,IQ.frozenAt j⟩;rw [IQ.cellAt j hj',get_flatK _ _ _ _ (by rw [hds];omega),hdi _ hq];have h2:=Q9 D (j / 10) (j % 10) ak (Nat.mod_lt _ ak);rw [show j / 10*10+j % 10=j by omega] at h2;rw [h2];show _=some ((gL D[j / 10])[j % 10]!);rw [getElem!_pos (gL D[j / 10]) (j % 10) (by rw [sG];omega),List.getElem?_eq_getElem (by rw [sG];omega)]);have hT:∀ i,aC w (r i).2 (pq (r i).1) 9∧(r i).2≠g:=fun i=>(by obtain ⟨h1,h2⟩:=HT (r i) (List.getElem_mem _);exact ⟨h1,fun e=>h2 (by rw [hu,e];rfl)⟩);have h:=ac8 (enc:=encR r) (cf:=wQ r) (fun x=>sG _) (fun x=>Q6 _) (adl r) d 96 #[] (fun args w=>by exact enters_of func96 aG rfl args w) (adn r g d.size w hT) hH hgl ak cp;rw [hds] at h;rw [hu,hN];refine h.mono ?_;rintro e w' ⟨rfl,m',d',⟨os',rfl⟩,hz,hP,hS⟩;have hHd:=holdsK_sortWorldK_c (encR r) 10 w g 0 d d' m' os' hH hgl (by rw [hz,hds]);have hp:d'.toList.Perm d.toList:=(by have h3:=hP.2.2;rwa [Array.extract_eq_self_of_le ak,Array.extract_eq_self_of_le ak] at h3);have hdl:d.toList.map r=D:=(by refine List.ext_getElem (by simp [d,hN]) fun i h1 h2=>?_;have h3:i<d.size:=(by rw [hds];omega);rw [List.getElem_map,Array.getElem_toList];have h4:=hdi i ak;rw [getElem!_pos d i h3] at h4;rw [h4]);have Rc:(d'.toList.map r).Perm D:=(by rw [←hdl];exact hp.map r);have Ab:(d'.toList.map r).length=N+1:=(by simp [hz]);refine ⟨rfl,d'.toList.map r,?_,?_,by rw [Ab],fun B0 w0 h1 h2 h3=>adj (encR r) 10 h1 ak h3⟩;{refine ⟨_,cp,by rw [Ab],.inr ⟨g,rfl,fun i hi c hc=>?_⟩⟩;have hi':i<d'.size:=(by simpa using hi);have h4:=(HoldsK.cell hHd (i:=i) (c:=c) hi' hc).1;rw [Nat.zero_add] at h4;rw [h4];have e3:encR r d'[i]! = gL (d'.toList.map r)[i]:=(by rw [getElem!_pos d' i hi'];simp [encR]);rw [e3,getElem!_pos _ c (by rw [sG];exact hc),List.getElem?_eq_getElem (by rw [sG];exact hc)]};{refine Tm.yT hl ?_ fun t=>(by rw [←hmem t];exact ((Rc.map (·.1)).mem_iff));have hne:∀ i j,i<N+1→j<N+1→i<j→Tm.bQ (r d'[i]!).1 (r d'[j]!).1<0:=fun i j hi hj hij=>(by have h5:=hS i j (Nat.zero_le _) hij hj;have h5:=IL h5;have h6:=Tm.nQ (r d'[j]!).1 (r d'[i]!).1;have hnd:(D.map (·.1)).Nodup:=(by rw [hD];exact adp L);have adr:((d'.toList.map r).map (·.1)).Nodup:=((Rc.map (·.1)).nodup_iff).2 hnd;have gi:(r d'[i]!).1=((d'.toList.map r).map (·.1))[i]'(by simp [hz];omega):=(by rw [getElem!_pos d' i ak];simp);have gj:(r d'[j]!).1=((d'.toList.map r).map (·.1))[j]'(by simp [hz];omega):=(by rw [getElem!_pos d' j ak];simp);have hm:∀ x,Tm.aZ (r x).1=true:=fun x=>hl _ ((hmem _).1 (List.mem_map.2 ⟨r x,List.getElem_mem _,rfl⟩));by_cases h0:Tm.bQ (r d'[i]!).1 (r d'[j]!).1=0;{exfalso;have e4:=(Tm.Gs (hm _) (hm _)).1 h0;rw [gi,gj] at e4;have h8:=List.pairwise_iff_getElem.1 adr i j (by simp [hz];omega) (by simp [hz];omega) hij;exact h8 e4};{omega});unfold Tm.dR;rw [List.pairwise_iff_getElem];intro i j hi hj hij;have hi':i<N+1:=(by simpa [hz] using hi);have hj':j<N+1:=(by simpa [hz] using hj);have h7:=hne i j hi' hj' hij;rw [getElem!_pos d' i ak,getElem!_pos d' j ak] at h7;simpa using h7}}}
def sH:List Value:=[.int .i64 0,aA [],aA [],.int .i64 0,aA [],aA [],.int .i64 0,aA [],aA []]
theorem sI:∃ i,prog.info? 67=some i∧i.zero=some (.agg sH.toArray)∧i.size=9∧i.bytes=120:=by have h:(prog.info? 67).map (fun i=>(i.zero,i.size,i.bytes))=some (some (.agg sH.toArray),9,120):=aG;obtain ⟨i,hi,h⟩:=Option.map_eq_some_iff.1 h;simp only [Prod.mk.injEq] at h;exact ⟨i,hi,h.1,h.2.1,h.2.2⟩
def Ac (A:List Value) (o:Nat) (v0 v1 v2 v3 v4 v5 v6 v7 v8:Value):List Value:=
 ((((((((A.set o v0).set (o+1) v1).set (o+2) v2).set (o+3) v3).set (o+4) v4).set (o+5) v5).set (o+6) v6).set (o+7) v7).set (o+8) v8
def Ad (w:World) (n1:Nat) (t1 x1:List UInt8) (n2:Nat) (t2 x2:List UInt8) (n3:Nat) (t3 x3:List UInt8) (b:Nat):World:=
 w.alloc (.cells #[.int .i64 (n1:Nat),aA t1,aA x1,.int .i64 (n2:Nat),aA t2,aA x2,.int .i64 (n3:Nat),aA t3,aA x3,.slice (some ⟨b,0,none⟩) 3 3] 158)
def IU:List Value→Nat→List Value→List Value
 | A,_,[]=>A
 | A,o,v::vs=>IU (A.set o v) (o+1) vs
theorem Rf:∀ (vs A:List Value) (o:Nat),o+vs.length≤A.length→∀ j,(IU A o vs)[j]?=if o≤j∧j<o+vs.length then vs[j-o]? else A[j]?
 | [],A,o,_,j=>by rw [if_neg (by simp only [List.length_nil];omega)];rfl
 | v::vs,A,o,h,j=>by
  simp only [List.length_cons] at h ⊢
  rw [IU,Rf vs (A.set o v) (o+1) (by rw [List.length_set];omega) j]
  by_cases h1:o+1≤j∧j<o+1+vs.length
  · rw [if_pos h1,if_pos ak,show j-o=(j-(o+1))+1 by omega,List.getElem?_cons_succ]
  · rw [if_neg h1]
    by_cases h2:j=o
    · subst h2
      rw [if_pos ak,Nat.sub_self,List.getElem?_set_self ak];rfl
    · rw [if_neg ak,List.getElem?_set_ne ak]
theorem ads (A:List Value) (o:Nat) (v0 v1 v2 v3 v4 v5 v6 v7 v8:Value):(Ac A o v0 v1 v2 v3 v4 v5 v6 v7 v8).length=A.length:=by unfold Ac;rw [List.length_set,List.length_set,List.length_set,List.length_set,List.length_set,List.length_set,List.length_set,List.length_set,List.length_set]
theorem adt (A:List Value) (o:Nat) (v0 v1 v2 v3 v4 v5 v6 v7 v8:Value) (h:o+9≤A.length) (j:Nat) :
  (Ac A o v0 v1 v2 v3 v4 v5 v6 v7 v8)[j]?=if o≤j∧j<o+9 then [v0,v1,v2,v3,v4,v5,v6,v7,v8][j-o]? else A[j]?:=
 Rf [v0,v1,v2,v3,v4,v5,v6,v7,v8] A o h j
def Eo (A:List Value) (S:List (TR×Nat)) (i:Nat):Prop:=∀ j (h:j<S.length),j<i→∀ c,c<9→A[j*9+c]?=(aV S[j].1).cells[c]?
theorem adu {A:List Value} {S:List (TR×Nat)} {i:Nat} (h:Eo A S i) (hi:i<S.length) (hA:A.length=S.length*9) {n1 n2 n3:Nat} {t1 x1 t2 x2 t3 x3:List UInt8} {b:Nat} (hS:S[i]=(((n1,t1,x1),(n2,t2,x2),n3,t3,x3),b)) :
  Eo (Ac A (i*9) (.int .i64 (n1:Nat)) (aA t1) (aA x1) (.int .i64 (n2:Nat)) (aA t2) (aA x2) (.int .i64 (n3:Nat)) (aA t3) (aA x3)) S (i+1):=by intro j hj hji c hc;rw [adt _ _ _ _ _ _ _ _ _ _ _ ak];by_cases hjj:j=i;{subst hjj;rw [if_pos ak,hS,show j*9+c-j*9=c by omega];rfl};{rw [if_neg ak];exact h j hj ak c hc}
theorem adv {W:World} {b N:Nat} {A:List Value} {S:List (TR×Nat)} {L:List TR} (hB:aC W b A 67) (h:Eo A S S.length) (hm:S.map (·.1)=L) (hN:S.length=N) (hm2:N≤maxLen):bJ W (.slice (some ⟨b,0,none⟩) N N) (L.map aV):=by
 subst hm;subst hN;refine ⟨_,_,by rw [List.length_map,List.length_map],by rw [List.length_map,List.length_map];exact Nat.le_refl _,hm2,(fun h=>by cases h),.inr ⟨b,0,rfl,fun i hi c hc=>?_⟩⟩;have hi':i<S.length:=by simpa using hi
 have h1:=h i hi' hi' c hc;have h2:c<(aV S[i].1).cells.length:=hc;rw [List.getElem?_eq_getElem h2] at h1;rw [Nat.zero_add,hB.cell h1];simp only [List.getElem_map];rw [List.getElem?_eq_getElem h2]
open Go.ChangeShapes Go.WideShapes Go.ChangeAt Go.RowKit
theorem IV (L:List TR) (hl:∀ t∈L,Tm.aZ t=true) (hn:L.length≤1000000) (w:World) (v:Value) (hv:bJ w v (L.map aV)) :
  Calls prog 49 #[v] w fun e w'=>∃ v',e=.returned v'∧bJ w' v' ((Tm.gu L).map aV)∧Below w.heap.size w w':=by
 have hmm:=@run_makeMap prog;obtain ⟨a,cap,rfl,hc1,hc2,hc3⟩:=hv.open;have HV:=aj hv;have HL:=aj hl;rw [List.length_map] at HV ⊢;obtain ⟨n,hn0⟩:=aB L.length;rw [←hn0] at HV hn ⊢;have HN:=aj hn0;have HB0:=aj (show Below w.heap.size w (w.alloc (.map #[] 0)) from (Below.refl _ _).alloc aF _);have uP:=aj (show (w.alloc (.map #[] 0)).ownsMap prog 67 Go.unitElem w.heap.size 0 (fF []) from World.ownsMap_made _ _ _ _);have SH:=aj (fun (k1 k2 k3:Nat) (t1 x1 t2 x2 t3 x3:List UInt8) (W:World) h1 h2 h3 h4 h5 h6=>NU (k1:Int) t1 x1 (k2:Int) t2 x2 (k3:Int) t3 x3 W h1 h2 h3 h4 h5 h6);clear hv hl hc1 hc2 hc3 hn0;go_enter func49,ntmps49;go_wp2;go_loopg [3,15] n (fun gk s3 s15 wr=>∃ (i:Nat) (D:List (TR×Nat)),s15=.int .i64 i∧i≤n∧n-i≤gk∧Hid (Below w.heap.size w wr)∧Hid (wr.ownsMap prog 67 Go.unitElem w.heap.size i (fF (Tm.jK [] (L.take i))))∧Hid (wr.ownsRow (w.heap.size+1) 158 10 s3 D.length (nD D))∧Hid (jh wr s3 D)∧Hid (D.map (·.1)=Tm.jK [] (L.take i)))
 case atStart=>exact ⟨0,[],rfl,Nat.zero_le _,Nat.le_refl _,HB0,uP,World.ownsRow_nil _ _ _ _,aj (fun p hp=>by cases hp),aj rfl⟩
 case round=>
  obtain ⟨i,D,rfl,hin,hg,HB,HM,HR,HT,HD⟩:=hrel;by_cases hlt:i<n
  · have hltz:(i:Int)<(n:Int):=ak;have bK:i<L.length:=(by rw [←HN.out];exact hlt);have HT1:=aj (HL.out L[i] (List.getElem_mem bK));have HK:=aj (show keyOf prog 67 (qm L[i])=some (jG L[i]) from wh (Aa HT1.out));have iJ:=aj (HV.out.keep HB.out);obtain ⟨bl,off,rfl,hrow⟩:=iJ.out.get (i:=i) (by rw [List.length_map];exact bK);have HRW:=aj (hrow i (by rw [List.length_map];exact bK));rw [List.getElem_map] at HRW;have HST:=aj (adi bK);obtain ⟨t,ht⟩:=aB (L[i]);rw [←ht] at HT1 HK HRW HST;have Rh:=Aa HT1.out;have jg:=aj Rh;obtain ⟨⟨n1,t1,x1⟩,⟨n2,t2,x2⟩,n3,t3,x3⟩:=t;clear ht hrow;have c0:=HRW.out 0 ak;have c1:=HRW.out 1 ak;have c2:=HRW.out 2 ak;have c3:=HRW.out 3 ak;have c4:=HRW.out 4 ak;have c5:=HRW.out 5 ak;have c6:=HRW.out 6 ak;have c7:=HRW.out 7 ak;have c8:=HRW.out 8 ak;simp only [aV,dZ.cells,List.getElem?_cons_zero,List.getElem?_cons_succ,Nat.add_zero] at c0 c1 c2 c3 c4 c5 c6 c7 c8;obtain ⟨acc,hacc⟩:=aB (Tm.jK [] (L.take i));rw [←hacc] at HM HD HST;have IW:=aj (show ∀ s∈acc,qo s by
     intro s hs;rw [hacc,Tm.Gr] at hs;rcases hs with hs | hs;{cases hs}
     · exact Aa (HL.out s (List.mem_of_mem_take hs)))
    have adw:=aj hacc;clear hacc Rh;obtain ⟨b,hb⟩:=aB (Maps.has (fF acc) (jG ((n1,t1,x1),(n2,t2,x2),n3,t3,x3)));have dw:=aj hb;clear hb;have aT:=aj (show Below w.heap.size w (aW wr n1 t1 x1 n2 t2 x2 n3 t3 x3) from HB.out.alloc HB.out.size _);have iD:=aj (show (aW wr n1 t1 x1 n2 t2 x2 n3 t3 x3).ownsMap prog 67 Go.unitElem w.heap.size i (fF acc) from HM.out.alloc _);have HR4:=aj (show (aW wr n1 t1 x1 n2 t2 x2 n3 t3 x3).ownsRow (w.heap.size+1) 158 10 u3 D.length (nD D) from HR.out.alloc _);have cO:=aj (show jh (aW wr n1 t1 x1 n2 t2 x2 n3 t3 x3) u3 D from HT.out.keep ((Below.refl _ _).alloc aF _));have bH:=aj (f_ wr n1 t1 x1 n2 t2 x2 n3 t3 x3);cases b
    · go_upto_region 8 with (first
       | (show wpList _ _ _ _ _ (aW wr n1 t1 x1 n2 t2 x2 n3 t3 x3);obtain ⟨w4,hw4⟩:=aB (aW wr n1 t1 x1 n2 t2 x2 n3 t3 x3);rw [←hw4] at aT iD HR4 cO bH ⊢;clear hw4;have c0:=bH.out.cell (i:=0) rfl;have c1:=bH.out.cell (i:=1) rfl;have c2:=bH.out.cell (i:=2) rfl;have c3:=bH.out.cell (i:=3) rfl;have c4:=bH.out.cell (i:=4) rfl;have c5:=bH.out.cell (i:=5) rfl;have c6:=bH.out.cell (i:=6) rfl;have c7:=bH.out.cell (i:=7) rfl;have c8:=bH.out.cell (i:=8) rfl)
       | (at_lookup;refine wpList_lookup_own_unit _ rfl _ _ 137 rfl 67 142 ql underlying137 (z_ _) w.heap.size i (fF acc) rfl iD.out _ _ rfl HK.out ?_;rw [←dw.out]))
      have aO:=aj (aT.out.alloc aT.out.size (.cells #[] 142));have ji:=aj (iD.out.alloc (.cells #[] 142));have dz:=aj (HR4.out.alloc (.cells #[] 142));have dG:=aj (cO.out.keep ((Below.refl _ _).alloc aF (.cells #[] 142)));have fE:=aj (bH.out.alloc (.cells #[] 142));generalize w4.alloc (.cells #[] 142)=w5 at aO ji dz dG fE ⊢;obtain ⟨c0,c1,c2,c3,c4,c5,c6,c7,c8⟩:=dQ fE.out;(go_upto_region 9 with (at_mapUpdate;refine wpList_mapUpdate_own _ rfl _ _ _ 137 rfl 67 142 ql underlying137 _ w.heap.size i (fF acc) rfl ji.out (by unfold maxLen;omega) _ _ _ rfl rfl HK.out (.agg []) [] Go.unitElem_mk ?_;intro w6 sJ lC));have hzm:=HM.out.lt;have aU:=aj (aO.out.grown lC aO.out.size (fun k hk=>by cases hk;omega));have uO:=aj (show w6.ownsMap prog 67 Go.unitElem w.heap.size (i+1) (fF (acc++[((n1,t1,x1),(n2,t2,x2),n3,t3,x3)])) by rw [Oa];exact sJ);have gD:=aj (dz.out.kept lC (.inr (fun e=>by have:=dz.out.lt _ e;omega)));have dP:=aj (dG.out.map lC (fun p hp=>Q0 ji.out (dG.out p hp).1));have cZ:=aj (fE.out.map lC ak);clear sJ lC c0 c1 c2 c3 c4 c5 c6 c7 c8;have SH1:=aj (fun W=>Q7 ((n1,t1,x1),(n2,t2,x2),n3,t3,x3) HT1.out W);have lZ:∀ k,u3.ownBlock=some k→w.heap.size+1≤k:=fun k hk=>(gD.out.lt k hk).1;have HOB:=aj lZ;clear lZ;have jf:=aU.out.size;have hDl:D.length≤1000000:=(by have:=congrArg List.length HD.out;rw [List.length_map] at this;have h2:=Q8 L i;rw [←adw.out] at h2;omega);obtain ⟨iS,hi0,⟨zS,bW,adx⟩,bX,bY⟩:=ade;obtain ⟨c0,c1,c2,c3,c4,c5,c6,c7,c8⟩:=dQ cZ.out;go_region_law (first
       | (go_simp;go_at_call 94;refine (SH1.out _).mono ?_;rintro e w7 ⟨b7,rfl,qM,Ri,hlow⟩;have gq:=aj Ri;have bS:=aj (aJ (Below.refl w6.heap.size w6).drew hlow);have k0:=aD bS.out c0;have k1:=aD bS.out c1;have k2:=aD bS.out c2;have k3:=aD bS.out c3;have k4:=aD bS.out c4;have k5:=aD bS.out c5;have k6:=aD bS.out c6;have k7:=aD bS.out c7;have k8:=aD bS.out c8;clear Ri hlow)
       | (refine wu (by rfl) (.tmp 29) (.tmp 34) 155 (by rfl) (w.heap.size+1) 158 iS zS 10 144 underlying155 hi0 bW bX bY adx aL u3 D.length (nD D) (by rfl) ((wP gD.out bS.out).alloc _) ⟨w7.heap.size,0,none⟩ 1 1 (gL (((n1,t1,x1),(n2,t2,x2),n3,t3,x3),b7)) rfl (by rfl) ?c2 ?o2 ?b4 ?b5 ?b6 ?_
          case c2=>exact fun j u hu=>adg w7 (((n1,t1,x1),(n2,t2,x2),n3,t3,x3),b7) _ rfl j u hu
          case o2=>exact Q6 _
          case b4=>(unfold maxLen;omega)
          case b5=>omega
          case b6=>(have:=bS.out.size;simp;omega)
          intro v8 w8 g1 g2 g3
          have G1:=aj g1
          have G2:=aj g2
          have G3:=aj g3
          clear g1 g2 g3)
       | fail)
      all_goals
       have FIN:=aj (adh aU.out uO.out dP.out bS.out qM gq.out HOB.out (fun k hk=>(gD.out.lt k hk).2) G1.out G2.out G3.out)
       go_wp2
       go_roundg (n-(i+1))
       case measure=>omega
       case rel=>
        refine ⟨i+1,D++[(((n1,t1,x1),(n2,t2,x2),n3,t3,x3),b7)],aN,ak,ak,FIN.out.1,?_,FIN.out.2.2.1,FIN.out.2.2.2,?_⟩
        · rw [HST.out,Q5 (by rw [←C8 IW.out jg.out];exact dw.out.symm)];exact FIN.out.2.1
        · show _=_
          rw [HST.out,Q5 (by rw [←C8 IW.out jg.out];exact dw.out.symm),List.map_append,HD.out];rfl
    · go_upto_region 10 with (first
       | (show wpList _ _ _ _ _ (aW wr n1 t1 x1 n2 t2 x2 n3 t3 x3);obtain ⟨w4,hw4⟩:=aB (aW wr n1 t1 x1 n2 t2 x2 n3 t3 x3);rw [←hw4] at aT iD HR4 cO bH ⊢;clear hw4;have c0:=bH.out.cell (i:=0) rfl;have c1:=bH.out.cell (i:=1) rfl;have c2:=bH.out.cell (i:=2) rfl;have c3:=bH.out.cell (i:=3) rfl;have c4:=bH.out.cell (i:=4) rfl;have c5:=bH.out.cell (i:=5) rfl;have c6:=bH.out.cell (i:=6) rfl;have c7:=bH.out.cell (i:=7) rfl;have c8:=bH.out.cell (i:=8) rfl)
       | (at_lookup;refine wpList_lookup_own_unit _ rfl _ _ 137 rfl 67 142 ql underlying137 (z_ _) w.heap.size i (fF acc) rfl iD.out _ _ rfl HK.out ?_;rw [←dw.out]))
      have aO:=aj (aT.out.alloc aT.out.size (.cells #[] 142));have ji:=aj (IJ (iD.out.alloc (.cells #[] 142)));have dz:=aj (HR4.out.alloc (.cells #[] 142));have dG:=aj (cO.out.keep ((Below.refl _ _).alloc aF (.cells #[] 142)));generalize w4.alloc (.cells #[] 142)=w5 at aO ji dz dG ⊢;go_wp2;go_roundg (n-(i+1))
      (case measure=>omega);case rel=>have e:=adf (show decide (((n1,t1,x1),(n2,t2,x2),n3,t3,x3)∈acc)=true by rw [←C8 IW.out jg.out];exact dw.out.symm);refine ⟨i+1,D,aN,ak,ak,aO.out,?_,dz.out,dG.out,?_⟩;{rw [HST.out,e];exact ji.out};{show _=_;rw [HST.out,e];exact HD.out}
  · obtain rfl:i=n:=ak;have hltz:¬ (i:Int)<(i:Int):=ak;have e0:L.take i=L:=List.take_of_length_le (by rw [←HN.out];exact Nat.le_refl _);rw [e0] at HD;clear e0 HM;have hDl:D.length≤1000000:=(by have:=congrArg List.length HD.out;rw [List.length_map] at this;have h2:=Q8 L L.length;rw [List.take_length] at h2;have:=HN.out;omega);have SO:=aj (adq L HL.out D HD.out (w.heap.size+1) wr u3 HR.out HT.out hDl);(go_wp2_with fail);refine SO.out.mono ?_;rintro e w5 ⟨rfl,S,hsa,Rj,Ab,hbel⟩;have aO:=aj (hbel w.heap.size w HB.out ak HB.out.size);have Ae:=aj Rj;obtain ⟨a5,cap5,hu,hsh⟩:=hsa;subst hu;obtain ⟨N,Ep⟩:=aB S.length;have wR:=aj hsh;have Er:=aj Ep;rw [←Ab,←Ep] at hDl;rw [←Ep];obtain ⟨i0,hi0,hz0,hz1,hz2⟩:=sI;have mk1:∀ W:World,(Instr.makeSlice 39 (.int .i64 (N:Int)) (.int .i64 (N:Int))).run prog W=_:=fun W=>run_make W 39 67 i0 _ underlying39 hi0 hz0 .i64 .i64 N N ak ak (by rw [hz2];omega) ak;rw [hz1] at mk1;clear hsh Ep Ab Rj hbel HR HT HD hi0 hz0 hz1 hz2 HB0 uP;go_wp2;obtain ⟨w6,dK⟩:=aB (w5.alloc (.cells (madeCells sH.toArray (N*9)) 67));rw [←dK];have iE:=aj (show w6.heap.size=w5.heap.size+1 by rw [dK];simp);have ady:=aj (show Below w5.heap.size w5 w6 by rw [dK];exact (Below.refl _ _).alloc aF _);have Af:=aj (show aC w6 w5.heap.size (madeCells sH.toArray (N*9)).toList 67 by rw [dK];exact aC.new' rfl rfl);have HL6:=aj (show (madeCells sH.toArray (N*9)).toList.length=N*9 by simp [madeCells]);generalize (madeCells sH.toArray (N*9)).toList=A0 at *;obtain ⟨b5,hb5⟩:=aB w5.heap.size;rw [←hb5] at Af;rw [show w5.heap.size=b5 from hb5.symm];have adz:=aj hb5;clear dK mk1 hb5;go_loopg [44] N (fun gk s44 wr=>∃ (i:Nat) (A:List Value),s44=.int .i64 i∧i≤N∧N-i≤gk∧Hid (Below w5.heap.size w5 wr)∧Hid (aC wr b5 A 67)∧Hid (A.length=N*9)∧Hid (Eo A S i))
    (case atStart=>exact ⟨0,A0,rfl,Nat.zero_le _,Nat.le_refl _,ady.out,Af.out,HL6.out,fun j _ h=>absurd h (Nat.not_lt_zero _)⟩);case round=>
     obtain ⟨j,A,rfl,hjN,hgj,eH,ig,wG,nZ⟩:=hrel;by_cases hj:j<N
     · have hjz:(j:Int)<(N:Int):=ak;have Rk:j<S.length:=(by rw [←Er.out];exact hj);rcases wR.out with h0 | ⟨g,rfl,hrow⟩;{omega}
       · have HRW:=aj (hrow j Rk);clear hrow;obtain ⟨p,hp⟩:=aB (S[j]);rw [←hp] at HRW;have uQ:=aj hp;clear hp;obtain ⟨⟨⟨n1,t1,x1⟩,⟨n2,t2,x2⟩,n3,t3,x3⟩,bb⟩:=p;have k0:=aD eH.out (v:=.int .i64 (n1:Nat)) (HRW.out 0 ak);have k1:=aD eH.out (v:=aA t1) (HRW.out 1 ak);have k2:=aD eH.out (v:=aA x1) (HRW.out 2 ak);have k3:=aD eH.out (v:=.int .i64 (n2:Nat)) (HRW.out 3 ak);have k4:=aD eH.out (v:=aA t2) (HRW.out 4 ak);have k5:=aD eH.out (v:=aA x2) (HRW.out 5 ak);have k6:=aD eH.out (v:=.int .i64 (n3:Nat)) (HRW.out 6 ak);have k7:=aD eH.out (v:=aA t3) (HRW.out 7 ak);have k8:=aD eH.out (v:=aA x3) (HRW.out 8 ak);have k9:=aD eH.out (v:=.slice (some ⟨bb,0,none⟩) 3 3) (HRW.out 9 ak);have iA:=eH.out.size;have bS:=aj (show Below w5.heap.size w5 (Ad wr n1 t1 x1 n2 t2 x2 n3 t3 x3 bb) from eH.out.alloc iA _);have iF:=aj (show aC (Ad wr n1 t1 x1 n2 t2 x2 n3 t3 x3 bb) b5 A 67 from ig.out.alloc _);have gq:=aj (show aC (Ad wr n1 t1 x1 n2 t2 x2 n3 t3 x3 bb) wr.heap.size [.int .i64 (n1:Nat),aA t1,aA x1,.int .i64 (n2:Nat),aA t2,aA x2,.int .i64 (n3:Nat),aA t3,aA x3,.slice (some ⟨bb,0,none⟩) 3 3] 158 from aC.new' rfl rfl);have TO:=aj (adu nZ.out Rk (by rw [wG.out,Er.out]) uQ.out.symm);simp only [Nat.add_zero] at k0;(go_upto_region 16 with (show wpList _ _ _ _ _ (Ad wr n1 t1 x1 n2 t2 x2 n3 t3 x3 bb);obtain ⟨w7,hw7⟩:=aB (Ad wr n1 t1 x1 n2 t2 x2 n3 t3 x3 bb);rw [←hw7] at bS iF gq ⊢;clear hw7));have Rl:=wG.out;have l7:=aj Rl;have sK:j*9+9≤A.length:=ak;clear Rl;have m0:=gq.out.cell (i:=0) rfl;have d0:=iF.out.cell (i:=j*9) (v:=A[j*9]) (List.getElem?_eq_getElem ak);have f0:=iF.out.free (j*9);generalize A[j*9]=z0 at d0;have m1:=gq.out.cell (i:=1) rfl;have d1:=iF.out.cell (i:=j*9+1) (v:=A[j*9+1]) (List.getElem?_eq_getElem ak);have f1:=iF.out.free (j*9+1);generalize A[j*9+1]=z1 at d1;have m2:=gq.out.cell (i:=2) rfl;have d2:=iF.out.cell (i:=j*9+2) (v:=A[j*9+2]) (List.getElem?_eq_getElem ak);have f2:=iF.out.free (j*9+2);generalize A[j*9+2]=z2 at d2;have m3:=gq.out.cell (i:=3) rfl;have d3:=iF.out.cell (i:=j*9+3) (v:=A[j*9+3]) (List.getElem?_eq_getElem ak);have f3:=iF.out.free (j*9+3);generalize A[j*9+3]=z3 at d3;have m4:=gq.out.cell (i:=4) rfl;have d4:=iF.out.cell (i:=j*9+4) (v:=A[j*9+4]) (List.getElem?_eq_getElem ak);have f4:=iF.out.free (j*9+4);generalize A[j*9+4]=z4 at d4;have m5:=gq.out.cell (i:=5) rfl;have d5:=iF.out.cell (i:=j*9+5) (v:=A[j*9+5]) (List.getElem?_eq_getElem ak);have f5:=iF.out.free (j*9+5);generalize A[j*9+5]=z5 at d5;have m6:=gq.out.cell (i:=6) rfl;have d6:=iF.out.cell (i:=j*9+6) (v:=A[j*9+6]) (List.getElem?_eq_getElem ak);have f6:=iF.out.free (j*9+6);generalize A[j*9+6]=z6 at d6;have m7:=gq.out.cell (i:=7) rfl;have d7:=iF.out.cell (i:=j*9+7) (v:=A[j*9+7]) (List.getElem?_eq_getElem ak);have f7:=iF.out.free (j*9+7);generalize A[j*9+7]=z7 at d7;have m8:=gq.out.cell (i:=8) rfl;have d8:=iF.out.cell (i:=j*9+8) (v:=A[j*9+8]) (List.getElem?_eq_getElem ak);have f8:=iF.out.free (j*9+8);generalize A[j*9+8]=z8 at d8;clear sK;have kD:=aj (show w5.heap.size≤b5 by rw [adz.out];exact Nat.le_refl _);(go_wp2_with fail);obtain ⟨w8,hw8⟩:=aB ((((((((((w7.setCell ⟨b5,j*9,none⟩ (.int .i64 (n1:Nat))).setCell ⟨b5,j*9+1,none⟩ (aA t1)).setCell ⟨b5,j*9+2,none⟩ (aA x1)).setCell ⟨b5,j*9+3,none⟩ (.int .i64 (n2:Nat))).setCell ⟨b5,j*9+4,none⟩ (aA t2)).setCell ⟨b5,j*9+5,none⟩ (aA x2)).setCell ⟨b5,j*9+6,none⟩ (.int .i64 (n3:Nat))).setCell ⟨b5,j*9+7,none⟩ (aA t3)).setCell ⟨b5,j*9+8,none⟩ (aA x3)));have aX:=aj (show Below w5.heap.size w5 w8 by rw [hw8];exact (((((((((bS.out.setCell kD.out _).setCell kD.out _).setCell kD.out _).setCell kD.out _).setCell kD.out _).setCell kD.out _).setCell kD.out _).setCell kD.out _).setCell kD.out _));have adA:=aj (show aC w8 b5 (Ac A (j*9) (.int .i64 (n1:Nat)) (aA t1) (aA x1) (.int .i64 (n2:Nat)) (aA t2) (aA x2) (.int .i64 (n3:Nat)) (aA t3) (aA x3)) 67 by rw [hw8];exact (((((((((iF.out.set (j*9) (.int .i64 (n1:Nat))).set (j*9+1) (aA t1)).set (j*9+2) (aA x1)).set (j*9+3) (.int .i64 (n2:Nat))).set (j*9+4) (aA t2)).set (j*9+5) (aA x2)).set (j*9+6) (.int .i64 (n3:Nat))).set (j*9+7) (aA t3)).set (j*9+8) (aA x3)));rw [←hw8];clear hw8;go_wp2;go_roundg (N-(j+1))
         (case measure=>omega);case rel=>exact ⟨j+1,_,aN,ak,ak,aX.out,adA.out,by show _=_;rw [ads];exact l7.out,TO.out⟩
     {have hjz:¬ (j:Int)<(N:Int):=ak;have adB:j=N:=ak;subst adB;go_wp2;go_ret;refine ⟨_,rfl,adv ig.out (by rw [←Er.out];exact nZ.out) Ae.out Er.out.symm (by unfold maxLen;omega),?_⟩;exact aO.out.trans (eH.out.mono aO.out.size)}
end Go.Proofs.YtjaebndajhppgaaGreatDoor
