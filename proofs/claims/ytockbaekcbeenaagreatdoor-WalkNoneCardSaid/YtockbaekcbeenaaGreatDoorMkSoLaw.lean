/-SoLaw-/
import Derived.Test.YtockbaekcbeenaaGreatDoorMkHd1
import Derived.Test.YtockbaekcbeenaaGreatDoorMkWkNet
import Derived.Test.YtockbaekcbeenaaGreatDoorMkSoId
import Derived.Test.YtockbaekcbeenaaGreatDoorMkGRg6
import Derived.Test.YtockbaekcbeenaaGreatDoorMkGAu5
import Derived.Test.YtockbaekcbeenaaGreatDoorMkGSo2
import Derived.Test.YtockbaekcbeenaaGreatDoorMkGPar
import Derived.Test.YtockbaekcbeenaaGreatDoorMkGTri
set_option linter.unusedVariables false
set_option linter.unusedSimpArgs false
set_option maxRecDepth 100000
set_option maxHeartbeats 4000000
namespace Go.Proofs.YtockbaekcbeenaaGreatDoor
open Go.Proofs.Tryz
open Go.ChangeShapes Go.WideShapes Go.ChangeAt Go.RowKit
open Au
theorem TU:∀ (n:Nat) (l k:List Rg.T),k.length=n→fl (l++k)=fl l++fl k
 | 0,l,k,h=>by rw [List.length_eq_zero_iff.1 h,List.append_nil];simp [F8]
 | n+1,l,k,h=>by
  rcases List.eq_nil_or_concat k with rfl | ⟨k',t,rfl⟩
  · cases h
  · rw [List.concat_eq_append] at h ⊢
    rw [←List.append_assoc,F9,F9,TU n l k' (by simpa using h),List.append_assoc]
theorem afx {W:World} {a:Option Addr} {n c:Nat} {L:List Rg.T} (h:gW W (.slice a n c) L):∀ ad,a=some ad→∀ j u,(fl L)[j]?=some u→W.cell? (ad.add j)=some u:=by intro ad e j u hu;obtain ⟨hi,rfl⟩:=AY hu;obtain ⟨b,off,e2,hx⟩:=h.get hi;rw [e] at e2;cases e2;rw [lG rfl,←hx (j / 3) hi (j % 3) (Nat.mod_lt _ aL)];show W.cell? ⟨b,off+j,none⟩=_;rw [Nat.add_assoc,show j / 3*3+j % 3=j by omega]
theorem ng.less {B B':Nat} {W:World} {v:Value} {L:List Rg.T} (h:ng B W v L) (hB:B'≤B):ng B' W v L:=by obtain ⟨a,c,h1,h2,h3⟩:=h;exact ⟨a,c,h1,h2,h3.imp_right fun ⟨g,e1,e2,e3,e4⟩=>⟨g,e1,Nat.le_trans hB e2,e3,e4⟩⟩
theorem ng.cells {B:Nat} {W:World} {v:Value} {L:List Rg.T} (h:ng B W v L):∃ a c,v=.slice a L.length c∧L.length≤c∧c≤maxLen∧(a=none→c=0)∧(L.length=0∨∃ g,a=some ⟨g,0,none⟩∧B≤g∧∀ i (h:i<L.length) k,k<3→W.cell? ⟨g,i*3+k,none⟩=some (.int .i64 (Rg.at' L[i] k))):=by obtain ⟨a,c,rfl,h2,h3⟩:=h;obtain ⟨a',c',e,q1,q2,q3⟩:=h2.open;cases e;refine ⟨a,c,rfl,q1,q2,q3,?_⟩;rcases h3 with h3 | ⟨g,rfl,hg,_,_⟩;{exact Or.inl h3};{rcases Nat.eq_zero_or_pos L.length with h0 | h0;{exact Or.inl h0};{obtain ⟨b,off,e,hx⟩:=h2.get h0;cases e;refine Or.inr ⟨g,rfl,hg,fun i hi k hk=>?_⟩;have:=hx i hi k hk;rwa [Nat.zero_add] at this}}
theorem Tryz.infoIDsW:(prog.info? 68).map (fun i=>(i.zero,i.size,i.bytes))=some (some (.agg #[.int .i64 0,.int .i64 0,.int .i64 0]),3,24):=aF
def lu (R:List Rg.T) (l:List Nat):List Rg.T:=l.flatMap fun x=>R.filter (Rg.mt (0,(x:Nat),0))
theorem afy (R:List Rg.T) (l:List Nat) (x:Nat):lu R (l++[x])=lu R l++R.filter (Rg.mt (0,(x:Nat),0)):=by simp [lu]
theorem TV (R:List Rg.T) (l:List Nat) (h:R.length≤100):(lu R l).length≤l.length*100:=Wk.nW l fun a _=>Nat.le_trans (List.length_filter_le _ _) h
theorem afz (p:Nat) (R:List Rg.T) (l:List Nat) (v:Value) (w:World) (h:kC w p R) (hv:jq w v l) (hl:l.length≤1000) :
  Calls prog 123 #[.pointer (some ⟨p,0,none⟩),v] w fun e w'=>∃ v',e=.returned v'∧ng w.heap.size w' v' (lu R l)∧Below w.heap.size w w':=by
 obtain ⟨a,cap,rfl,h1,h2,h3,h4⟩:=hv;have HR:=aj h;have HA:=aj h4;have hRl:=h.2.2.1;obtain ⟨n,hn⟩:=aC l.length;have HN:=aj hn;rw [←hn] at h1 h3 hl ⊢;obtain ⟨i0,hi,hz0,hz1,hz2⟩:=nI Tryz.infoIDsW;clear h h4 hn h1 h3;go_enter func123,ntmps123;go_wp2;go_loopg [5,10] n (fun gk s5 s10 wr=>∃ (i:Nat) (v:Value),s5=v∧s10=.int .i64 i∧i≤n∧n-i≤gk∧Hid (Below w.heap.size w wr)∧Hid (wr.ownsRow w.heap.size 68 3 v (lu R (l.take i)).length (fl (lu R (l.take i)))))
 case atStart=>exact ⟨0,_,rfl,rfl,ay,ay,Below.refl _ _,aj (by simpa [lu,F8] using World.ownsRow_nil _ _ _ _)⟩
 case round=>
  obtain ⟨i,v,hv,rfl,hi2,hg,HB,HO⟩:=hrel;have hv:=hv.symm;subst hv;by_cases hlt:i<n
  · have hltz:(i:Int)<(n:Int):=ay;have hil:i<l.length:=(by rw [←HN.out];exact hlt);obtain ⟨b,off,rfl,hrow⟩:=gM.get HA.out hil;have e0:=aD HB.out (hrow i hil);have HT:=aj (show l.take (i+1)=l.take i++[l.getD i 0] by rw [List.take_succ_eq_append_getElem hil];simp [List.getD,hil]);obtain ⟨x,hx⟩:=aC (l.getD i 0);rw [←hx] at e0 HT;have TW:=aj (HR.out.keep HB.out);have hbl:=TV R (l.take i) hRl;rw [List.length_take,Nat.min_eq_left ay] at hbl;have hfl:(R.filter (Rg.mt (0,(x:Nat),0))).length≤100:=Nat.le_trans (List.length_filter_le _ _) hRl;have HC:=aj (aeO p R (0,(x:Nat),0) wr TW.out (fun c hc=>by have:c=0∨c=1∨c=2:=ay;rcases this with rfl | rfl | rfl <;> (simp [Rg.at'];try omega)));unfold tv at HC;have HS:=aj (afy R (l.take i) x);obtain ⟨F,hF⟩:=aC (R.filter (Rg.mt (0,(x:Nat),0)));rw [←hF] at HC hfl HS;obtain ⟨G,hG⟩:=aC (lu R (l.take i));rw [←hG] at HO hbl HS;clear hx hF hG hrow TW;have hB0:=HB.out.size;go_wp2_with (first
     | (go_at_call 120;refine HC.out.mono ?_;rintro e w2 ⟨v2,rfl,hn2,hb2⟩;have HB2:=aj (aI HB.out hb2);have jA:=aj (qF HO.out hb2);have fE:=aj hn2.at;have hzw:=hb2.size;obtain ⟨a2,c2,rfl,q1,q2,q3⟩:=hn2.at.open;have DU:=aj (show a2=none→F.length=0∧c2=0 from fun e=>by have:=q3 e;omega);clear hb2 hn2 q1 q2 q3)
     | (at_builtin;refine nD rfl (.tmp 14) (.tmp 18) 53 rfl w.heap.size 68 i0 _ 3 24 underlying53 hi hz0 hz1 hz2 rfl aL v _ _ (by rfl) jA.out a2 _ c2 (fl F) (by rfl) DU.out (qK F) (afx fE.out) (QJ F) (by unfold maxLen;omega) ay ay ?_))
    intro v' w4 hown hgr hmv;have aP:=aj (yg HB2.out ay hgr (fun k hk=>(jA.out.lt k hk).1));have HOW:=aj hown;clear hown hgr hmv fE DU jA;go_wp2;go_roundg (n-(i+1))
    (case measure=>omega);case rel=>exact ⟨i+1,v',rfl,aN,ay,ay,aP.out,aj (by rw [HT.out,HS.out,List.length_append,TU _ _ _ rfl];exact HOW.out)⟩
  {obtain rfl:n=i:=ay;have hltz:¬ (n:Int)<(n:Int):=ay;have jA:=aj (show wr.ownsRow w.heap.size 68 3 v (lu R l).length (fl (lu R l)) from by have h:=HO.out;rw [HN.out,List.take_length] at h;exact h);go_wp2;go_ret;exact ⟨_,rfl,SX jA.out rfl,HB.out⟩}
def kI (E:List T3) (l:List (List UInt8)):List Nat:=(l.map fun t=>mY E 1 t []).filter (fun z=>z != 0)
theorem afA (E:List T3) (l:List (List UInt8)) (t:List UInt8):kI E (l++[t])=kI E l++if (mY E 1 t [] != 0)=true then [mY E 1 t []] else []:=by unfold kI;rw [List.map_append,List.filter_append];cases h:(mY E 1 t [] != 0) <;> simp [h]
theorem TY (E:List T3) (l:List (List UInt8)):(kI E l).length≤l.length:=by unfold kI;exact Nat.le_trans (List.length_filter_le _ _) aH
def uV (s:Stp) (v:Value):Value:=.agg #[.int .i64 s.from_,.int .i64 s.dest,.bool s.back,.bool s.not,v]
theorem afB (p:Nat) (L:List TR) (hl:∀ t∈L,Tm.bf t=true) (hn:L.length≤1000) (s:Stp) (v:Value) (w:World) (h:ji w p L) (hs:s.not=false) (hT:iA w v s.texts) (hT1:s.texts.length≤300) (qV:∀ i,(s.texts.getD i []).length≤1000000000) :
  Calls prog 90 #[.pointer (some ⟨p,0,none⟩),uV s v] w fun e w'=>∃ v',e=.returned v'∧ng w.heap.size w' v' (lu (So.ids L) (kI (So.terms L) s.texts))∧Below w.heap.size w w':=by
 unfold uV;obtain ⟨fr,xu,bk,nt,T⟩:=s;simp only at hs hT hT1 qV ⊢;subst hs;obtain ⟨a,cap,rfl,h1,h2,h3,h4⟩:=hT;have HS:=aj h;have HA:=aj h4;have HT2:=aj qV;obtain ⟨n,hn0⟩:=aC T.length;have HN:=aj hn0;rw [←hn0] at h1 hT1 ⊢;obtain ⟨E,hE⟩:=aC (So.terms L);have SI:=aj fun W t (hW:ji W p L) (ht:t.length≤1000000000)=>aeD p L hl hn 1 t [] W hW ht aH;have iq:=aj (afA (So.terms L));have HSL:=aj (TY (So.terms L));rw [←hE] at SI iq HSL ⊢;unfold dV at SI;obtain ⟨iI,qP,zq,hsI,zw⟩:=nI Tryz.infoIntW;clear h h4 hn0 qV h3 hE;go_enter func90,ntmps90;go_upto_region 2 with fail
 obtain ⟨bs,hbs⟩:=aC w.heap.size;obtain ⟨w1,hw1⟩:=aC (w.alloc (.cells #[.int .i64 fr,.int .i64 xu,.bool bk,.bool false,.slice a n cap] 119));obtain ⟨nb,hnb⟩:=aC (bs+1);obtain ⟨w2,hw2⟩:=aC (w1.alloc (.cells #[.slice none 0 0] 35));have hb1:Below w.heap.size w w1:=by rw [hw1];exact (Below.refl _ _).alloc aG _
 have hb2:Below w1.heap.size w1 w2:=by rw [hw2];exact (Below.refl _ _).alloc aG _
 have hs1:w1.heap.size=nb:=by rw [hw1,hnb,hbs];simp
 have hs2:w2.heap.size=nb+1:=by rw [hw2];simp [hs1]
 have dZ:=aj (show aB w2 bs [.int .i64 fr,.int .i64 xu,.bool bk,.bool false,.slice a n cap] 119 from by rw [hw2];refine aB.alloc ?_ _;rw [hw1,hbs];exact aB.new _ _ _);have vS:=aj (show aB w2 nb [.slice none 0 0] 35 from by rw [hw2];exact aB.new' hs1 rfl);have HB2:=aj (aI hb1 hb2);have hbn:bs<nb:=ay;have hwb:w.heap.size=bs:=hbs.symm;rw [←hbs,←hw1,←hnb,←hw2];clear hw1 hw2 hs1 hb1 hb2 hbs hnb;have k4:=dZ.out.cell (i:=4) rfl;go_wp2;clear k4;go_loopg [13] n (fun gk s13 wr=>∃ (i:Nat) (v:Value),s13=.int .i64 i∧i≤n∧n-i≤gk∧Hid (Below w.heap.size w wr)∧Hid (aB wr bs [.int .i64 fr,.int .i64 xu,.bool bk,.bool false,.slice a n cap] 119)∧Hid (aB wr nb [v] 35)∧Hid (wr.ownsRow (nb+1) 3 1 v (kI E (T.take i)).length (kQ (kI E (T.take i)))))
 case atStart=>exact ⟨0,_,rfl,ay,ay,HB2.out,dZ.out,vS.out,aj (World.ownsRow_nil _ _ _ _)⟩
 case round=>
  clear dZ vS;obtain ⟨i,v,rfl,hi2,hg,HB,HX,HY,HO⟩:=hrel;by_cases hlt:i<n
  · have hltz:(i:Int)<(n:Int):=ay;have hil:i<T.length:=(by rw [←HN.out];exact hlt);obtain ⟨b,off,rfl,hrow⟩:=gM.get HA.out hil;have e0:=aD HB.out (hrow i hil);have Mc:=iq.out (T.take i) (T.getD i []);have ht2:=HT2.out i;have T9:T.take (i+1)=T.take i++[T.getD i []]:=(by rw [List.take_succ_eq_append_getElem hil];simp [List.getD,hil]);rw [←T9] at Mc;have iJ:=aj Mc;have Gv:=aj (SI.out wr (T.getD i []) (HS.out.keep HB.out) ht2);have hnl:=HSL.out (T.take i);rw [List.length_take,Nat.min_eq_left ay] at hnl;obtain ⟨G,hG⟩:=aC (kI E (T.take i));have HG:=aj hG;rw [←hG] at HO iJ hnl;obtain ⟨t,ht⟩:=aC (T.getD i []);rw [←ht] at e0 iJ Gv;obtain ⟨z,hz⟩:=aC (mY E 1 t []);rw [←hz] at iJ Gv;have hbw:=HB.out.size;clear Mc T9 hG ht hz hrow ht2;by_cases hz0:z=0
    · subst hz0;(go_wp2_with (go_at_call 117;refine Gv.out.mono ?_;rintro e w3 ⟨rfl,hb3⟩;have HB3:=aj (aI HB.out hb3);have lT:=aj (HX.out.keep hb3);have nJ:=aj (HY.out.keep hb3);have lW:=aj (qF HO.out hb3);clear hb3));go_roundg (n-(i+1))
      (case measure=>omega);case rel=>exact ⟨i+1,v,aN,ay,ay,HB3.out,lT.out,nJ.out,aj (by rw [iJ.out];simpa using lW.out)⟩
    · have hzz:(z:Int)≠0:=ay;have HZ:=aj (show (z != 0)=true by simp [hz0]);go_wp2_with (first
       | (go_at_call 117;refine Gv.out.mono ?_;rintro e w3 ⟨rfl,hb3⟩;have HB3:=aj (aI HB.out hb3);have lT:=aj (HX.out.keep hb3);have nJ:=aj (HY.out.keep hb3);have lW:=aj (qF HO.out hb3);have hz3:=hb3.size;have y0:=nJ.out.cell (i:=0) rfl;clear hb3)
       | (at_builtin;refine nD rfl (.tmp 23) (.tmp 25) 35 rfl (nb+1) 3 iI _ 1 8 underlying35 qP zq hsI zw rfl aL v _ _ (by rfl) (lW.out.alloc _) (some ⟨w3.heap.size,0,none⟩) 1 1 [.int .i64 (z:Nat)] (by rfl) (fun h=>by cases h) rfl (vM w3 _ 3) (En z) (by unfold maxLen;omega) ay (by have:=nJ.out.lt;simp;omega) ?_))
      intro v' w4 hown hgr hmv;obtain ⟨g4,cap4,hv4⟩:∃ g4 cap4,v'=.slice (some ⟨g4,0,none⟩) (G.length+1) cap4:=(by obtain ⟨h0,⟨_,e0⟩ | ⟨g4,cap4,zx,e4,_⟩⟩:=hown;{omega};{exact ⟨g4,cap4,e4⟩});subst hv4;have qJ:=hgr.size;simp at qJ;have Md:=iT hgr;have hv4:∀ k,v.ownBlock=some k→nb+1≤k:=fun k hk=>(lW.out.lt k hk).1;have aP:=aj (yg (HB3.out.alloc ay (.cells #[.int .i64 (z:Nat)] 3)) (by simp;omega) hgr (fun k hk=>by have:=hv4 k hk;omega));have jy:=aj ((lT.out.alloc (.cells #[.int .i64 (z:Nat)] 3)).aW Md (fun e=>by have:=hv4 _ e;omega));have yA:=aj ((nJ.out.alloc (.cells #[.int .i64 (z:Nat)] 3)).aW Md (fun e=>by have:=hv4 _ e;omega));have y1:=yA.out.cell (i:=0) rfl;have y2:=yA.out.free 0;have AZ:=aj (aM.set (X:=fun k=>k=nb) (aM.refl _ w4) (Or.inl rfl) 0 (.slice (some ⟨g4,0,none⟩) (G.length+1) cap4));have jW:=aj (jy.out.aW AZ.out ay);have JA:=aj (yA.out.set 0 (.slice (some ⟨g4,0,none⟩) (G.length+1) cap4));have qA:=aj (oF hown AZ.out (fun k e=>by have:=(hown.lt k e).1;omega));have aQ:=aj (aP.out.trans (aM.below AZ.out ay (fun k hk e=>ay)));clear hown hgr hmv Md hv4 y0;go_wp2;go_roundg (n-(i+1))
      (case measure=>omega);case rel=>exact ⟨i+1,_,aN,ay,ay,aQ.out,jW.out,JA.out,aj (by have e:=iJ.out;rw [if_pos HZ.out] at e;rw [e,List.length_append,show kQ (G++[z])=kQ G++[.int .i64 (z:Nat)] by simp [kQ]];exact qA.out)⟩
  · obtain rfl:n=i:=ay;have hltz:¬ (n:Int)<(n:Int):=ay;have jA:=aj (show wr.ownsRow (nb+1) 3 1 v (kI E T).length (kQ (kI E T)) from by have h:=HO.out;rw [HN.out,List.take_length] at h;exact h);have HSr:=aj (HS.out.keep HB.out);have RC:=aj (aey p L wr HSr.out);have hlen:=HSL.out T;rw [←HN.out] at hlen;have k3:=HX.out.cell (i:=3) rfl;have y0:=HY.out.cell (i:=0) rfl;have NC:=aj fun r (hr:kC wr r (So.ids L))=>afz r (So.ids L) (kI E T) v wr hr (IU jA.out) ay;go_wp2_with (first
     | (go_at_call 118;refine RC.out.mono ?_;rintro e w3 ⟨⟨r,rfl,hr⟩,rfl⟩;have HR3:=aj hr;clear hr)
     | (go_at_call 123;refine (NC.out _ HR3.out).mono ?_;rintro e w4 ⟨v4,rfl,hi4,hb4⟩;have HI4:=aj (hi4.less HB.out.size);have aP:=aj (aI HB.out hb4);clear hi4 hb4))
    go_ret;exact ⟨_,rfl,HI4.out,aP.out⟩
end Go.Proofs.YtockbaekcbeenaaGreatDoor
namespace Go.Proofs.YtockbaekcbeenaaGreatDoor
open Go.Proofs.Tryz
open Go.ChangeShapes Go.WideShapes Go.ChangeAt Go.RowKit
open Au
def zy (b:Bool) (t:Rg.T):Nat:=(if b then t.2.2 else t.1).toNat
def xw (b:Bool) (t:Rg.T):Nat:=(if b then t.1 else t.2.2).toNat
def rowsOf (b:Bool) (l:List Rg.T) (x:Nat):List Nat:=(l.filter fun t=>decide (zy b t=x)).map (xw b)
theorem afC (b:Bool) (l:List Rg.T) (t:Rg.T):rowsOf b (l++[t])=fun x=>if x=zy b t then rowsOf b l x++[xw b t] else rowsOf b l x:=by funext x;unfold rowsOf;rw [List.filter_append,List.map_append];by_cases h:zy b t=x;{subst h;simp};{simp [h,show ¬ x=zy b t from fun e=>h e.symm]}
theorem T_ (b:Bool) (l:List Rg.T) (x:Nat):(rowsOf b l x).length≤l.length:=by unfold rowsOf;rw [List.length_map];exact List.length_filter_le _ _
def jM (N:Nat) (b:Bool) (l:List Rg.T):List (List Nat):=(List.range (N+1)).map (rowsOf b l)
structure mE (base:Nat) (w:World) (ab N:Nat) (us:Nat→Value) (row:Nat→List Nat):Prop where
 blk:aB w ab ((List.range (N+1)).map us) 35
 own:∀ x,x≤N→w.ownsRow base 3 1 (us x) (row x).length (kQ (row x))
 nU:∀ x y k,x≤N→y≤N→x≠y→(us x).ownBlock=some k→(us y).ownBlock≠some k
 lt:ab<base
section
variable {base:Nat} {W W':World} {ab N:Nat} {us:Nat→Value} {row:Nat→List Nat}
theorem mE.keep (h:mE base W ab N us row) (hb:Below W.heap.size W W'):mE base W' ab N us row:=
 ⟨h.blk.keep hb,fun x hx=>qF (h.own x hx) hb,h.nU,h.lt⟩
theorem mE.put (h:mE base W ab N us row) {o:Obj} {v':Value} {x t:Nat} (hx:x≤N) (hown:W'.ownsRow base 3 1 v' ((row x).length+1) (kQ (row x)++[.int .i64 (t:Nat)])) (hgr:(W.alloc o).grownBy W' (us x).ownBlock) (hmv:Moved (W.alloc o) (us x) v') :
  mE base (W'.setCell ⟨ab,x,none⟩ v') ab N (fun y=>if y=x then v' else us y) (fun y=>if y=x then row y++[t] else row y):=by
 have hf:=iT hgr;have hlt:=h.lt;have hset:=aM.set (X:=fun k=>k=ab) (aM.refl _ W') (Or.inl rfl) x v';have hv':∀ k,v'.ownBlock=some k→(us x).ownBlock=some k∨W.heap.size<k:=fun k e=>by rcases hmv with h1 | ⟨k',h1,h2⟩;{exact Or.inl (by rw [←h1];exact e)};{rw [h1] at e;cases e;simp at h2;exact Or.inr ay}
 refine ⟨?_,fun y hy=>?_,fun y z k hy hz hyz e1 e2=>?_,h.lt⟩
 · have h1:=((h.blk.alloc o).aW hf (fun e=>by have:=((h.own x hx).lt _ e).1;omega)).set x v';have e:((List.range (N+1)).map us).set x v'=(List.range (N+1)).map fun y=>if y=x then v' else us y:=by refine List.ext_getElem aH fun i h1 h2=>?_;rw [List.getElem_set];simp only [List.getElem_map,List.getElem_range];by_cases hi:x=i;{subst hi;simp};{rw [if_neg hi,if_neg (fun e=>hi e.symm)]}
   rwa [e] at h1
 {by_cases hyx:y=x;{subst hyx;simp only [if_pos];refine oF ?_ hset (fun k e e2=>by have:=(hown.lt k e).1;omega);rw [List.length_append,show kQ (row y++[t])=kQ (row y)++[.int .i64 (t:Nat)] by simp [kQ]];exact hown};{simp only [if_neg hyx];refine oF (oF ((h.own y hy).alloc o) hf (fun k e e2=>h.nU x y k hx hy (fun e=>hyx e.symm) e2 e)) hset (fun k e e2=>by have:=((h.own y hy).lt k e).1;omega)}};{by_cases hyx:y=x;{subst hyx;simp only [if_pos] at e1;rw [if_neg (fun e=>hyz e.symm)] at e2;rcases hv' k e1 with h1 | h1;{exact h.nU y z k hx hz hyz h1 e2};{have:=((h.own z hz).lt k e2).2;omega}};{rw [if_neg hyx] at e1;by_cases hzx:z=x;{subst hzx;simp only [if_pos] at e2;rcases hv' k e2 with h1 | h1;{exact h.nU y z k hy hx hyz e1 h1};{have:=((h.own y hy).lt k e1).2;omega}};{rw [if_neg hzx] at e2;exact h.nU y z k hy hz hyz e1 e2}}}
theorem mE.start (h:aB W ab ((List.range (N+1)).map fun _=>.slice none 0 0) 35) (hl:ab<base):mE base W ab N (fun _=>.slice none 0 0) (fun _=>[]):=
 ⟨h,fun x _=>World.ownsRow_nil _ _ _ _,fun x y k _ _ _ e=>(by cases e),hl⟩
theorem mE.kept {B:Nat} (h:mE base W ab N us row) (hB:B≤ab) (hN:N+1≤maxLen) (ha:∀ {W:World},mE base W ab N us row→oC W (.slice (some ⟨ab,0,none⟩) (N+1) (N+1)) ((List.range (N+1)).map row)) :
  Kept B W.heap.size W fun W=>oC W (.slice (some ⟨ab,0,none⟩) (N+1) (N+1)) ((List.range (N+1)).map row):=fun w' hw=>by have hl:=h.lt;refine ha ⟨?_,fun x hx=>ZC (h.own x hx) fun k h1 h2=>hw k ay h2,h.nU,h.lt⟩;have:=h.blk;unfold aB at this ⊢;rw [hw ab hB h.blk.lt];exact this
theorem mE.along (h:mE base W ab N us row) (hN:N+1≤maxLen):oC W (.slice (some ⟨ab,0,none⟩) (N+1) (N+1)) ((List.range (N+1)).map row):=by
 refine ⟨ab,(List.range (N+1)).map us,aH,by simpa using hN,h.blk,aH,fun j hj=>?_⟩;have hj':j<N+1:=by simpa using hj
 have e1:((List.range (N+1)).map us).getD j undef=us j:=by simp [List.getD,hj']
 have e2:((List.range (N+1)).map row).getD j []=row j:=by simp [List.getD,hj']
 rw [e1,e2];exact IU (h.own j ay)
end
theorem afD {w:World} {p sp N:Nat} (s:Stp) (v:Value) (TL:List Rg.T) (hc:w.cell? ⟨p,0,none⟩=some (.int .i64 (N:Nat))) (hN:N≤1000) (hTL:∀ t∈TL,1≤t.1∧t.1≤N∧1≤t.2.2∧t.2.2≤N) (hlen:TL.length≤100000)
  (hT:∀ W,Below w.heap.size w W→Calls prog 90 #[.pointer (some ⟨sp,0,none⟩),uV s v] W fun e w'=>∃ v',e=.returned v'∧ng W.heap.size w' v' TL∧Below W.heap.size W w') :
  Calls prog 61 #[.pointer (some ⟨p,0,none⟩),.pointer (some ⟨sp,0,none⟩),uV s v] w fun e w'=>∃ ab,e=.returned (.slice (some ⟨ab,0,none⟩) (N+1) (N+1))∧Kept w.heap.size w'.heap.size w' (fun W=>oC W (.slice (some ⟨ab,0,none⟩) (N+1) (N+1)) (jM N s.back TL))∧Below w.heap.size w w':=by
 unfold uV at hT ⊢;obtain ⟨fr,xu,bk,nt,T⟩:=s;simp only at hT ⊢;have HT:=aj hT;have lM:=aj hTL;have mk1:∀ W:World,(Instr.makeSlice 127 (.int .i64 ((N:Int)+1)) (.int .i64 ((N:Int)+1))).run prog W=.ok (.slice (some ⟨W.heap.size,0,none⟩) (N+1) (N+1)) (W.alloc (.cells (madeCells #[.slice none 0 0] (N+1)) 35)):=fun W=>mk_one underlying127 Tryz.infoLIntW ay rfl (N+1) ay W;have wn:IntKind.i64.wrap ((N:Int)+1)=(N:Int)+1:=by rw [IntKind.wrap_i64];omega
 obtain ⟨iI,qP,zq,hsI,zw⟩:=nI Tryz.infoIntW;have hpl:=lt_of_cell hc;obtain ⟨w1,hw1⟩:=aC (w.alloc (.cells #[.int .i64 fr,.int .i64 xu,.bool bk,.bool nt,v] 119));have hb1:Below w.heap.size w w1:=by rw [hw1];exact (Below.refl _ _).alloc aG _
 have c1:=aD hb1 hc;clear hT hTL;go_enter func61,ntmps61;go_upto_region 1 with fail
 obtain ⟨bs,hbs⟩:=aC w.heap.size;have lC:=aj (show aB w1 bs [.int .i64 fr,.int .i64 xu,.bool bk,.bool nt,v] 119 from by rw [hw1,hbs];exact aB.new _ _ _);have hs1:w1.heap.size=bs+1:=by rw [hw1,hbs];simp
 rw [←hw1,←hbs];clear hw1;obtain ⟨ab,hab⟩:=aC w1.heap.size;obtain ⟨w2,hw2⟩:=aC (w1.alloc (.cells (madeCells #[.slice none 0 0] (N+1)) 35));have hb2:Below w1.heap.size w1 w2:=by rw [hw2];exact (Below.refl _ _).alloc aG _
 have HA2:=aj (show aB w2 ab ((List.range (N+1)).map fun _=>.slice none 0 0) 35 from by rw [hw2];exact aB.new' hab.symm (Em (N+1)));have dZ:=aj (lC.out.keep hb2);have HB2:=aj (aI hb1 hb2);have hba:bs<ab:=ay;have hz2:w2.heap.size=ab+1:=by rw [hw2,hab];simp
 have hwb:w.heap.size≤bs:=ay;clear hs1 hbs;go_upto_region 2 with fail
 rw [←hw2,←hab];clear hw2 hab hb1 hb2 c1 hc lC mk1;obtain ⟨k0,k1,k2,k3,k4⟩:=V7 dZ.out;go_wp2_with (go_at_call 90;refine (HT.out w2 HB2.out).mono ?_;rintro e w3 ⟨v3,rfl,hi3,hb3⟩;have HB3:=aj (aI HB2.out hb3);have lT:=aj (dZ.out.keep hb3);have qR:=aj (HA2.out.keep hb3);obtain ⟨a3,c3,rfl,q1,q2,q3,q4⟩:=hi3.cells;have HI3:=aj q4;have hz3:=hb3.size;clear hi3 hb3 q4)
 clear k0 k1 k2 k3 k4;obtain ⟨c,hc⟩:=aC TL.length;have HC:=aj hc;rw [←hc] at hlen q1 ⊢;clear hc;go_loopg [22] c (fun gk Ab wr=>∃ (i:Nat) (us:Nat→Value),Ab=.int .i64 i∧i≤c∧c-i≤gk∧Hid (Below w.heap.size w wr)∧Hid (aB wr bs [.int .i64 fr,.int .i64 xu,.bool bk,.bool nt,v] 119)∧Hid (aM (fun k=>k=ab) w3 wr)∧Hid (mE w3.heap.size wr ab N us (rowsOf bk (TL.take i))))
 case atStart=>exact ⟨0,_,rfl,ay,ay,HB3.out,lT.out,aj (aM.refl _ _),aj (mE.start qR.out ay)⟩
 case round=>
  clear lT qR;obtain ⟨i,us,rfl,hi2,hg,HB,HX,HF,HR⟩:=hrel;by_cases hlt:i<c
  · have hltz:(i:Int)<(c:Int):=ay;have hil:i<TL.length:=(by rw [←HC.out];exact hlt);obtain ⟨g,rfl,hg1,hx⟩:=HI3.out.resolve_left ay;have e0:=HF.out.cell ay (hx i hil 0 ay);have e1:=HF.out.cell ay (hx i hil 1 ay);have e2:=HF.out.cell ay (hx i hil 2 ay);have iB:=aj (show TL.take (i+1)=TL.take i++[TL[i]] from List.take_succ_eq_append_getElem hil);have hb:=lM.out TL[i] (List.getElem_mem hil);have hrl:=fun x=>T_ bk (TL.take i) x;have jQ:=aj (show ∀ x,(rowsOf bk (TL.take i) x).length≤i from fun x=>Nat.le_trans (hrl x) (by rw [List.length_take];exact Nat.min_le_left _ _));have iq:=aj (afC bk (TL.take i) TL[i]);rw [←iB.out] at iq;generalize TL[i]=t at e0 e1 e2 hb iB iq;obtain ⟨t1,t2,t3⟩:=t;obtain ⟨b1,b2,b3,b4⟩:=hb;obtain ⟨f1,rfl⟩:=Int.eq_ofNat_of_zero_le (show 0≤t1 by simp only at b1;omega);obtain ⟨f3,rfl⟩:=Int.eq_ofNat_of_zero_le (show 0≤t3 by simp only at b3;omega);replace e0:wr.cell? ⟨g,i*3,none⟩=some (.int .i64 (f1:Nat)):=e0;replace e1:wr.cell? ⟨g,i*3+1,none⟩=some (.int .i64 t2):=e1;replace e2:wr.cell? ⟨g,i*3+2,none⟩=some (.int .i64 (f3:Nat)):=e2;simp only at b1 b2 b3 b4;clear hx hrl;obtain ⟨w4,hw4⟩:=aC (wr.alloc (.cells #[.int .i64 (f1:Nat),.int .i64 t2,.int .i64 (f3:Nat)] 68));obtain ⟨tb,htb⟩:=aC wr.heap.size;have Ua:Below wr.heap.size wr w4:=(by rw [hw4];exact (Below.refl _ _).alloc aG _);have cB:=aj (show aB w4 tb [.int .i64 (f1:Nat),.int .i64 t2,.int .i64 (f3:Nat)] 68 from by rw [hw4,htb];exact aB.new _ _ _);(go_upto_region 5 with fail);rw [←hw4,←htb];clear hw4 htb e0 e1 e2;have m0:=cB.out.cell (i:=0) rfl;have m2:=cB.out.cell (i:=2) rfl;(go_quiet (fail));(go_upto_region 6 with fail);obtain ⟨w5,bG⟩:=aC (w4.drewN nq);have hb5:Below wr.heap.size wr w5:=(by rw [bG];exact bV Ua nq);have jW:=aj (HX.out.keep hb5);have bU:=aj (HR.out.keep hb5);have aQ:=aj (aI HB.out hb5);have gQ:=aj (show aM (fun k=>k=ab) w3 w5 from HF.out.trans (aM.of_below (X:=fun _=>False) hb5) (fun _ _ e=>e.elim));rw [←bG];have vF:=aQ.out.size;have hzb:=jW.out.lt;have hza:=bU.out.blk.lt;clear bG hb5 Ua cB m0 m2 HX HR HB HF;have k2:=jW.out.cell (i:=2) rfl;cases bk with
    | false=>
     have uU:=aj (show zy false ((f1:Int),t2,(f3:Int))=f1∧xw false ((f1:Int),t2,(f3:Int))=f3 from ⟨rfl,rfl⟩);have hsz:(f1:Int)<(N:Int)+1:=ay;have hsn:f1≤N:=ay;have y0:=bU.out.blk.cell (i:=f1) (v:=us f1) (by simp [show f1<N+1 by omega]);(go_wp2_with (at_builtin;refine nD rfl (.tmp 39) (.tmp 41) 35 rfl w3.heap.size 3 iI _ 1 8 underlying35 qP zq hsI zw rfl aL (us f1) _ _ (by rfl) ((bU.out.own f1 hsn).alloc _) (some ⟨w5.heap.size,0,none⟩) 1 1 [.int .i64 (f3:Nat)] (by rfl) (fun h=>by cases h) rfl (vM w5 _ 3) (En f3) (by have:=jQ.out f1;unfold maxLen;omega) (by have:=jQ.out f1;omega) (by have:=gQ.out.size;simp;omega) ?_));intro v' w6 hown hgr hmv;obtain ⟨g4,cap4,hv4⟩:∃ g4 cap4,v'=.slice (some ⟨g4,0,none⟩) ((rowsOf false (TL.take i) f1).length+1) cap4:=(by obtain ⟨h0,⟨_,e0⟩ | ⟨g4,cap4,zx,e4,_⟩⟩:=hown;{omega};{exact ⟨g4,cap4,e4⟩});subst hv4;have sU:=iT hgr;have hv5:∀ k,(us f1).ownBlock=some k→w3.heap.size≤k:=fun k hk=>((bU.out.own f1 hsn).lt k hk).1;have je:=hgr.size;simp at je;have hBL:=(bU.out.blk.alloc (.cells #[.int .i64 (f3:Nat)] 3)).aW sU (fun e=>by have:=hv5 _ e;omega);have y1:=hBL.cell (i:=f1) (v:=us f1) (by simp [show f1<N+1 by omega]);have y2:=hBL.free f1;have nP:=aj (bU.out.put (t:=f3) hsn hown hgr hmv);have aR:=aj (yg (aQ.out.alloc ay (.cells #[.int .i64 (f3:Nat)] 3)) (by simp;omega) hgr (fun k hk=>by have:=hv5 k hk;omega));have uW:=aj ((jW.out.alloc (.cells #[.int .i64 (f3:Nat)] 3)).aW sU (fun e=>by have:=hv5 _ e;omega));have oK:=aj (gQ.out.trans ((aM.of_below (X:=fun k=>(us f1).ownBlock=some k) ((Below.refl _ _).alloc aG (.cells #[.int .i64 (f3:Nat)] 3))).trans sU (fun _ _ e=>e)) (fun k hk e=>by have:=hv5 k e;omega));have hset:=aM.set (X:=fun k=>k=ab) (aM.refl _ w6) (Or.inl rfl) f1 (.slice (some ⟨g4,0,none⟩) ((rowsOf false (TL.take i) f1).length+1) cap4);have CB:=aj (uW.out.aW hset ay);have aZ:=aj (aR.out.trans (aM.below hset ay (fun k hk e=>ay)));have CF:=aj (oK.out.trans hset (fun _ _ e=>e));clear hown hgr hmv sU hv5 hBL hset y0;go_wp2;go_roundg (c-(i+1))
     (case measure=>omega);case rel=>exact ⟨i+1,_,aN,ay,ay,aZ.out,CB.out,CF.out,aj (by rw [iq.out,uU.out.1,uU.out.2];exact nP.out)⟩
    | true=>
     have uU:=aj (show zy true ((f1:Int),t2,(f3:Int))=f3∧xw true ((f1:Int),t2,(f3:Int))=f1 from ⟨rfl,rfl⟩);have hsz:(f3:Int)<(N:Int)+1:=ay;have hsn:f3≤N:=ay;have y0:=bU.out.blk.cell (i:=f3) (v:=us f3) (by simp [show f3<N+1 by omega]);(go_wp2_with (at_builtin;refine nD rfl (.tmp 39) (.tmp 41) 35 rfl w3.heap.size 3 iI _ 1 8 underlying35 qP zq hsI zw rfl aL (us f3) _ _ (by rfl) ((bU.out.own f3 hsn).alloc _) (some ⟨w5.heap.size,0,none⟩) 1 1 [.int .i64 (f1:Nat)] (by rfl) (fun h=>by cases h) rfl (vM w5 _ 3) (En f1) (by have:=jQ.out f3;unfold maxLen;omega) (by have:=jQ.out f3;omega) (by have:=gQ.out.size;simp;omega) ?_));intro v' w6 hown hgr hmv;obtain ⟨g4,cap4,hv4⟩:∃ g4 cap4,v'=.slice (some ⟨g4,0,none⟩) ((rowsOf true (TL.take i) f3).length+1) cap4:=(by obtain ⟨h0,⟨_,e0⟩ | ⟨g4,cap4,zx,e4,_⟩⟩:=hown;{omega};{exact ⟨g4,cap4,e4⟩});subst hv4;have sU:=iT hgr;have hv5:∀ k,(us f3).ownBlock=some k→w3.heap.size≤k:=fun k hk=>((bU.out.own f3 hsn).lt k hk).1;have je:=hgr.size;simp at je;have hBL:=(bU.out.blk.alloc (.cells #[.int .i64 (f1:Nat)] 3)).aW sU (fun e=>by have:=hv5 _ e;omega);have y1:=hBL.cell (i:=f3) (v:=us f3) (by simp [show f3<N+1 by omega]);have y2:=hBL.free f3;have nP:=aj (bU.out.put (t:=f1) hsn hown hgr hmv);have aR:=aj (yg (aQ.out.alloc ay (.cells #[.int .i64 (f1:Nat)] 3)) (by simp;omega) hgr (fun k hk=>by have:=hv5 k hk;omega));have uW:=aj ((jW.out.alloc (.cells #[.int .i64 (f1:Nat)] 3)).aW sU (fun e=>by have:=hv5 _ e;omega));have oK:=aj (gQ.out.trans ((aM.of_below (X:=fun k=>(us f3).ownBlock=some k) ((Below.refl _ _).alloc aG (.cells #[.int .i64 (f1:Nat)] 3))).trans sU (fun _ _ e=>e)) (fun k hk e=>by have:=hv5 k e;omega));have hset:=aM.set (X:=fun k=>k=ab) (aM.refl _ w6) (Or.inl rfl) f3 (.slice (some ⟨g4,0,none⟩) ((rowsOf true (TL.take i) f3).length+1) cap4);have CB:=aj (uW.out.aW hset ay);have aZ:=aj (aR.out.trans (aM.below hset ay (fun k hk e=>ay)));have CF:=aj (oK.out.trans hset (fun _ _ e=>e));clear hown hgr hmv sU hv5 hBL hset y0;go_wp2;go_roundg (c-(i+1))
     (case measure=>omega);case rel=>exact ⟨i+1,_,aN,ay,ay,aZ.out,CB.out,CF.out,aj (by rw [iq.out,uU.out.1,uU.out.2];exact nP.out)⟩
  {obtain rfl:c=i:=ay;have hltz:¬ (c:Int)<(c:Int):=ay;have uf:=aj (show Kept w.heap.size wr.heap.size wr (fun W=>oC W (.slice (some ⟨ab,0,none⟩) (N+1) (N+1)) (jM N bk TL)) from by have h:=HR.out;rw [HC.out,List.take_length] at h;exact h.kept ay (by unfold maxLen;omega) (fun h=>h.along (by unfold maxLen;omega)));go_wp2;go_ret;exact ⟨_,rfl,uf.out,HB.out⟩}
end Go.Proofs.YtockbaekcbeenaaGreatDoor
namespace Go.Proofs.YtockbaekcbeenaaGreatDoor
open Go.Proofs.Tryz
open Go.ChangeShapes Go.WideShapes Go.ChangeAt Go.RowKit Go.Sort
theorem afE (M:List TR) (hM:∀ t∈M,Tm.bf t=true) (hn:M.length≤100):Tm.iW (Tm.jv M) 0 []=(0,M.length,Tm.iE [] M):=by have h:=Tm.Qu M [] 0 [] hM ay (by simp only [List.length_nil];omega);rw [List.append_nil,Nat.zero_add] at h;rw [h];exact Tm.aaY _ _
theorem afF (M:List TR) (hM:∀ t∈M,Tm.bf t=true):∀ t∈Tm.iE [] M,Tm.bf t=true:=fun t ht=>by rcases (Tm.AL M [] t).1 ht with h | h;{cases h};{exact hM t h}
theorem afG (M:List TR):(Tm.iE [] M).length≤M.length:=by have:=Ke M M.length;rwa [List.take_length] at this
theorem afH (M:List TR) (hM:∀ t∈M,Tm.bf t=true) (hn:M.length≤100) (hp:(Tm.jv M).length≤20000) (W:World) (hV:d9 W) (hE:cu W) :
  Calls prog 34 #[aA (Tm.jv M)] W fun e w'=>∃ p,e=.returned (.tuple #[.pointer (some ⟨p,0,none⟩),.int .i64 (M.length:Nat),.int .i64 0])∧ji w' p (Tm.eH M)∧Below W.heap.size W w':=by refine (Sw _ W hV hE hp _ (afE M hM hn) (fun _=>⟨afF M hM,Nat.le_trans (afG M) hn⟩)).mono ?_;rintro e w' ⟨⟨p,h1,h2⟩,h3⟩;have e2:Tm.eH (Tm.iE [] M)=Tm.eH M:=Tm.aa7 hM;simp only at h2;rw [e2] at h2;exact ⟨p,h1,h2,h3⟩
theorem afI (p:Nat) (L:List TR) (hn:L.length≤1000) (w:World) (h:ji w p L) :
  Calls prog 57 #[.pointer (some ⟨p,0,none⟩)] w fun e w'=>∃ v',e=.returned v'∧bQ w' v' (So.terms L)∧(0<(So.terms L).length→w'.ownsRow w.heap.size 63 3 v' (So.terms L).length (cO (So.terms L)))∧Below w.heap.size w w':=by
 obtain ⟨vt,ve,r,h1,h2,h3,h4⟩:=h;have hlen:=So.Fj L;have CL:=aj (aeE ve (So.terms L) w h3 ay);obtain ⟨a,c,rfl,_,_,_⟩:=h3.open;have c0:=h1.cell (i:=1) rfl;clear h1 h2 h3 h4 hlen;go_enter func57,ntmps57;go_wp2_with (go_at_call 87;refine CL.out.mono ?_;rintro e w1 ⟨v',rfl,hT,hO,hB⟩;have HT:=aj (And.intro hT (And.intro hO hB));clear hT hO hB)
 go_ret;exact ⟨v',rfl,HT.out⟩
end Go.Proofs.YtockbaekcbeenaaGreatDoor
