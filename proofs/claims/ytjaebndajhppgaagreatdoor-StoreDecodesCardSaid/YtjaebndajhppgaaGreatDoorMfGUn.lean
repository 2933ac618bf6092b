/-GUn-/
import Derived.Test.YtjaebndajhppgaaGreatDoorMfHd1
import Derived.Test.YtjaebndajhppgaaGreatDoorMfGFr3
import Derived.Deep.RegionWith
import Derived.Test.YtjaebndajhppgaaGreatDoorMfGRe3
import Derived.BigRegion
set_option linter.unusedVariables false
set_option linter.unusedSimpArgs false
set_option maxRecDepth 100000
set_option maxHeartbeats 4000000
namespace Go.Proofs.YtjaebndajhppgaaGreatDoor
open Go.Proofs.Tryz
open Go.ChangeShapes Go.WideShapes Go.ChangeAt Go.RowKit
theorem ahv {W:World} {bb off m p k c:Nat} {b:List Nat} (h:bM W (some ⟨bb,off,none⟩) m fun j=>aM (b.getD j 0)) (hk:p+k≤m) (hc:m≤c):bM W (if c=p then some ⟨bb,off,none⟩ else some ⟨bb,off+p,none⟩) k fun j=>aM (b.getD (p+j) 0):=by by_cases e:c=p;{exact Or.inl ak};{rw [if_neg e];exact VJ (Bw (k:=p) h ak) ak}
theorem ahw {f:FuncId} {args:Array Value} {w0 w:World} {L:List (List UInt8)} {k:Nat} {S:ByteArray} (hw:Below w0.heap.size w0 w) (hS:S=strOf (Fr.bf L k))
  (h:Calls prog f args w fun e w'=>∃ v,e=.returned v∧Below w.heap.size w w'∧w'.ownsRow w.heap.size 5 1 v (Fr.bf L k).length ((Fr.bf L k).map aM)) :
  Calls prog f args w fun e w'=>∃ v,e=.returned v∧Below w0.heap.size w0 w'∧Below w.heap.size w w'∧Hid (∀ w'',Below w'.heap.size w' w''→(convert 32 9 v).run prog w''=.ok (.string S) w'')∧(convert 32 9 v).run prog w'=.ok (.string S) w':=by
 refine h.mono ?_;rintro e w' ⟨v,rfl,hb,ho⟩;have hk:∀ w'',Below w'.heap.size w' w''→(convert 32 9 v).run prog w''=.ok (.string S) w'':=fun w'' hb2=>by rw [hS];exact mP underlying32 underlying5 underlying9 w'' v _ ((VI ho).keep hb2)
 exact ⟨v,rfl,aJ hw hb,hb,hk,hk w' (Below.refl _ _)⟩
theorem ahx (a:Option Addr) (N cap:Nat) (W:World) (hN:N<2):Calls prog 52 #[.slice a N cap] W fun e W'=>e=.returned (.tuple #[.slice none 0 0,.int .i64 2])∧W=W':=by
 go_enter func52,ntmps52;go_wp2;go_ret2
 exact ⟨rfl,rfl⟩
theorem ahy (a:Option Addr) (N cap n:Nat) (b:List Nat) (W:World) (hN:2≤N) (hNb:N=b.length) (hNc:N≤cap) (hcm:cap≤maxLen) (hN3:N≤140737488351232) (hR:bM W a N fun i=>aM (b.getD i 0)) (hb:∀ i,b.getD i 0<256) (hc:n=Fr.cnt b) :
  Calls prog 52 #[.slice a N cap] W fun e W'=>Below W.heap.size W W'∧((Fr.res b=none∧e=.returned (.tuple #[.slice none 0 0,.int .i64 2]))∨∃ L u,Fr.res b=some L∧e=.returned (.tuple #[u,.int .i64 0])∧fI W' u L):=by
 obtain ⟨i0,hi,hz0,hz1,hz2⟩:=info_parts Tryz.info9;obtain ⟨bb,off,rfl,hcc⟩:=hR.get (show 0<N by omega);have c0:=hcc 0 ak;have c1:=hcc 1 ak;rw [Nat.add_zero] at c0;have h0:=hb 0;have h1:=hb 1;have HR:=aj hR;have oQ:=aj hb;have fK:=aj hNb;have HB0:=aj (show Fr.st b 0=some ([],[],2) from rfl);have fA:=aj (fun i (h:Fr.st b (i+1)=none) (hi:i<n)=>show Fr.res b=none by unfold Fr.res Fr.rd;rw [if_neg ak,←hc,Fr.vK h ak];rfl);have ahz:=aj (fun L x p (h:Fr.st b n=some (L,x,p))=>show Fr.res b=if Fr.May L∧Fr.bf L L.length=b then some L else none by unfold Fr.res Fr.rd;rw [if_neg ak,←hc,h];rfl);unfold Fr.cnt at hc;obtain ⟨g0,e0⟩:=aB (b.getD 0 0);obtain ⟨g1,e1⟩:=aB (b.getD 1 0);rw [←e0] at c0 h0 hc;rw [←e1] at c1 h1 hc;have hor:=Bv g0 g1 h0 h1;rw [←hc] at hor;have hn6:n≤65535:=ak;unfold aM at c0 c1;unfold maxLen at hcm;clear hcc hR hb e0 e1 hc hNb;go_enter func52,ntmps52;go_wp2;go_region
 go_wp2_with fail
 go_loopw [8,5,6,7] (fun s8 s5 s6 s7 wr=>∃ (i:Nat) (L:List (List UInt8)) (x:List UInt8) (p:Nat),i≤n∧s8=.int .i64 i∧s6=.int .i64 p∧s7=aA x∧p≤N∧2≤p∧x.length≤510∧Hid (Fr.st b i=some (L,x,p))∧Hid (wr.ownsRow W.heap.size 9 1 s5 i (L.map aA))∧Hid (Below W.heap.size W wr)) (fun s8 _ _ _ _=>n-(intOf s8).toNat)
 case atStart=>exact ⟨0,[],[],2,ak,rfl,rfl,rfl,ak,ak,aI,HB0.out,World.ownsRow_nil _ _ _ _,(Below.refl _ _).drew⟩
 case round=>
  obtain ⟨i,L,x,p,hin,rfl,rfl,rfl,VL,hp2,hxl,HS,HO,HB⟩:=hrel;obtain ⟨mM,_,_⟩:=Fr.Bu HS.out;by_cases hlt:i<n
  · by_cases hA:N<p+2
    · have lV:=aj (fA.out i (by rw [Fr.mK HS.out];unfold Fr.ent;rw [if_pos (by have:=fK.out;omega)]) hlt);have hA2:(N:Int)-p<2:=ak;go_wp2;go_ret2
      exact ⟨HB.out,.inl ⟨lV.out,rfl⟩⟩
    · obtain ⟨b2,o2,e2,hcc⟩:=HR.out.get (show 0<N by omega);simp only [Option.some.injEq,Addr.mk.injEq] at e2;obtain ⟨rfl,rfl,_⟩:=e2;have d0:=aD HB.out (hcc p ak);have Fx:=hcc (p+1) ak;have d1:=aD HB.out Fx;have l0:=oQ.out p;have l1:=oQ.out (p+1);obtain ⟨k0,e0⟩:=aB (b.getD p 0);obtain ⟨k1,e1⟩:=aB (b.getD (p+1) 0);have pV:=aj e0;have pW:=aj e1;rw [←e0] at d0 l0;rw [←e1] at d1 Fx l1;unfold aM at d0 d1 Fx;have hA2:decide ((N:Int)-p<2)=false:=decide_eq_false ak;clear hcc e0 e1;by_cases f1:x.length<k0
      · have lV:=aj (fA.out i (by rw [Fr.mK HS.out];unfold Fr.ent;rw [←pV.out,←pW.out,if_pos (by have:=fK.out;omega)]) hlt);go_wp2;go_ret2
        exact ⟨HB.out,.inl ⟨lV.out,rfl⟩⟩
      · by_cases f2:N<p+2+k1
        · have lV:=aj (fA.out i (by rw [Fr.mK HS.out];unfold Fr.ent;rw [←pV.out,←pW.out,if_pos (by have:=fK.out;omega)]) hlt);have f4:(N:Int)-p-2<k1:=ak;go_wp2;go_ret2
          exact ⟨HB.out,.inl ⟨lV.out,rfl⟩⟩
        · have f3:k0≤x.length:=ak;have f4:decide ((N:Int)-p-2<k1)=false:=decide_eq_false ak;have hcv:(convert 32 9 (.slice (if cap=p+2 then some ⟨bb,off,none⟩ else some ⟨bb,off+(p+2),none⟩) k1 (cap-(p+2)))).run prog wr.drew=.ok (aA (Fr.txt ((b.drop (p+2)).take k1))) wr.drew:=
           K_ ((ahv (k:=k1) HR.out ak hNc).keep HB.out.drew) (by have:=fK.out;omega)
          have e1:=vS x k0;have hl1:(x.take k0).length=k0:=(by rw [List.length_take];omega);have hl2:(Fr.txt ((b.drop (p+2)).take k1)).length=k1:=(by unfold Fr.txt;rw [List.length_map,List.length_take,List.length_drop];have:=fK.out;omega);have e2:=K9 (x.take k0) (Fr.txt ((b.drop (p+2)).take k1));have HS2:=aj (show Fr.st b (i+1)=some (L++[x.take k0++Fr.txt ((b.drop (p+2)).take k1)],x.take k0++Fr.txt ((b.drop (p+2)).take k1),p+2+k1) by rw [Fr.mK HS.out];unfold Fr.ent;rw [←pV.out,←pW.out,if_neg (by have:=fK.out;omega)]);have hyl:(x.take k0++Fr.txt ((b.drop (p+2)).take k1)).length≤510:=(by rw [List.length_append];omega);obtain ⟨y,hy⟩:=aB (x.take k0++Fr.txt ((b.drop (p+2)).take k1));rw [←hy] at e2 HS2 hyl;obtain ⟨y1,hy1⟩:=aB (x.take k0);rw [←hy1] at e1 e2 hl1;obtain ⟨y2,hy2⟩:=aB (Fr.txt ((b.drop (p+2)).take k1));rw [←hy2] at e2 hcv hl2;clear hy hy1 hy2;go_wp2;go_region
          obtain ⟨wc,hwc⟩:=aB wr.drew;rw [←hwc];have OC:=aj (show wc.ownsRow W.heap.size 9 1 u5 i (L.map aA) by rw [hwc];exact HO.out);have kW:=aj (show Below W.heap.size W wc by rw [hwc];exact HB.out.drew);have hzc:=kW.out.size;clear hwc hcv d0 d1 e1 e2;obtain ⟨a2,ha2⟩:∃ a2:Option Addr,(if cap=p+2 then some (⟨bb,off,none⟩:Addr) else some ⟨bb,off+(p+2),none⟩)=a2:=⟨_,rfl⟩;rw [ha2];clear ha2;(go_wp2_with (at_builtin;refine kP rfl (.tmp 78) (.tmp 80) 47 rfl W.heap.size 9 i0 _ 16 underlying47 hi hz0 hz1 hz2 rfl _ _ _ rfl (OC.out.alloc _) (some ⟨wc.heap.size,0,none⟩) 1 1 (fun _=>aA y) rfl ?nil ?row ?one ?b1 ?b2 ?base ?_));(case nil=>exact fun h=>by cases h);(case row=>refine Or.inr ⟨_,_,rfl,fun j hj=>?_⟩;rw [Nat.zero_add,fD,show j=0 by omega];rfl);(case one=>intro j _;rfl);(case b1=>unfold maxLen;omega);(case b2=>omega);(case base=>simp;omega);intro v1 w1 hown hgr;have hb1:Below W.heap.size W w1:=(kW.out.alloc hzc _).grown hgr (by simp;omega) (fun g hg=>(OC.out.lt g hg).1);have hown':w1.ownsRow W.heap.size 9 1 v1 (i+1) ((L++[y]).map aA):=(by rw [List.map_append];exact hown);have O1:=aj hown';have HB1:=aj hb1;have c3:=aD hb1 Fx;clear hown hown' hgr hb1;go_wp2;go_roundw
          (case rel=>exact ⟨i+1,L++[y],y,p+2+k1,ak,aN,aN,rfl,ak,ak,hyl,HS2.out,O1.out,HB1.out⟩);case measure=>simp [intOf];omega
  · obtain rfl:i=n:=ak;have xV:=aj (ahz.out L x p HS.out);have hlen:=VP (Fr.La oQ.out HS.out);have RM:=aj (fun w (hw:Below wr.heap.size wr w)=>UK u5 L w ((bD.own HO.out mM.symm).keep hw) (fun j=>Nat.le_trans (hlen j) ak) ak);have jY:=aj (fun w (hw:Below wr.heap.size wr w)=>mP (P:=prog) underlying32 underlying5 underlying9 w (.slice (some ⟨bb,off,none⟩) N cap) b ((show bN W (.slice (some ⟨bb,off,none⟩) N cap) b from ⟨some ⟨bb,off,none⟩,cap,by rw [fK.out],by have:=fK.out;omega,by unfold maxLen;omega,(fun h=>by cases h),by rw [←fK.out];exact HR.out⟩).keep (aJ HB.out hw)));by_cases hm:Fr.May L
    · have HM:=aj hm;rw [decide_eq_true hm] at RM;have RB:=aj (fun w (hw:Below wr.heap.size wr w)=>ahw (w0:=wr) hw rfl (KA u5 L w ((bD.own HO.out mM.symm).keep hw) hm));have h3:=VU (VW hm) oQ.out;obtain ⟨S1,hS1⟩:=aB (strOf (Fr.bf L L.length));obtain ⟨S2,hS2⟩:=aB (strOf b);rw [←hS1] at h3 RB;rw [←hS2] at h3 jY;by_cases he:Fr.bf L L.length=b
      · rw [decide_eq_true he] at h3;have HE:=aj he;have HF:=aj (show Fr.res b=some L by rw [xV.out,if_pos ⟨HM.out,HE.out⟩]);have HT:=aj (fun w hw=>(bD.own (f:=aA) (d:=[]) HO.out mM.symm).keep (W':=w) hw);clear hm hS1 hS2 he xV hlen;go_wp2;go_region_with (first
         | (go_at_call 26;refine (RM.out _ ?_).mono ?_
            · exact (Below.refl _ _).drew
            rintro e w' ⟨rfl,q,rfl⟩
            have ahA:=jY.out _ (bn (Below.refl wr.heap.size wr) (1+q)))
         | (go_at_call 29;refine (RB.out _ ?_).mono ?_
            · exact bn (Below.refl wr.heap.size wr) _
            rintro e w5 ⟨v5,rfl,hb5,hc5,hk5,ahB⟩
            have ahC:=jY.out _ hb5))
        (all_goals go_wp2);(all_goals go_ret2);all_goals exact ⟨aJ HB.out hb5,.inr ⟨L,_,HF.out,rfl,HT.out _ hb5⟩⟩
      · rw [decide_eq_false he] at h3;have HE:=aj he;have HF:=aj (show Fr.res b=none by rw [xV.out,if_neg (fun h=>HE.out h.2)]);clear hm hS1 hS2 he xV hlen;go_wp2;go_region_with (first
         | (go_at_call 26;refine (RM.out _ ?_).mono ?_
            · exact (Below.refl _ _).drew
            rintro e w' ⟨rfl,q,rfl⟩
            have ahA:=jY.out _ (bn (Below.refl wr.heap.size wr) (1+q)))
         | (go_at_call 29;refine (RB.out _ ?_).mono ?_
            · exact bn (Below.refl wr.heap.size wr) _
            rintro e w5 ⟨v5,rfl,hb5,hc5,hk5,ahB⟩
            have ahC:=jY.out _ hb5))
        (all_goals go_wp2);(all_goals go_ret2);all_goals exact ⟨aJ HB.out hb5,.inl ⟨HF.out,rfl⟩⟩
    · have HM:=aj hm;rw [decide_eq_false hm] at RM;have HF:=aj (show Fr.res b=none by rw [xV.out,if_neg (fun h=>HM.out h.1)]);clear hm xV hlen jY;go_wp2;(go_quiet (first | (go_at_call 26;exact Uy fun W hW=>RM.out W (by rw [hW];exact bn (Below.refl _ _) _))));go_wp2;go_ret2
      exact ⟨bn HB.out _,.inl ⟨HF.out,rfl⟩⟩
theorem ahD (v:Value) (b:List Nat) (W:World) (h:bN W v b) (hb:∀ i,b.getD i 0<256) (hN:b.length≤140737488351232) :
  Calls prog 52 #[v] W fun e W'=>Below W.heap.size W W'∧((Fr.res b=none∧e=.returned (.tuple #[.slice none 0 0,.int .i64 2]))∨∃ L u,Fr.res b=some L∧e=.returned (.tuple #[u,.int .i64 0])∧fI W' u L):=by obtain ⟨a,cap,rfl,hc1,hc2,hc3,hR⟩:=h.open;by_cases h1:b.length<2;{refine (ahx a _ cap W h1).mono ?_;rintro e w' ⟨rfl,rfl⟩;exact ⟨Below.refl _ _,.inl ⟨by unfold Fr.res Fr.rd;rw [if_pos h1],rfl⟩⟩};{exact ahy a _ cap _ b W ak rfl hc1 hc2 hN hR hb rfl}
def lH (b:List Nat) (n:Nat):Option (List Bx.aY):=if n≤8∧9+7*n≤b.length∧b.length≤100000 then Bx.fq b n 6 (9+7*n) else none
theorem Lb {W:World} {bb off m cap:Nat} {l:List Nat} (h:bN W (.slice (some ⟨bb,off,none⟩) m cap) l) (i k c off':Nat) (ho:off'=off+i) (hik:i+k≤m) (hkc:k≤c) (hc:c≤maxLen) :
  bN W (.slice (some ⟨bb,off',none⟩) k c) ((l.drop i).take k):=by
 obtain ⟨hn,hr⟩:=bD.row h;have hlen:((l.drop i).take k).length=k:=by simp;omega
 refine ⟨some ⟨bb,off',none⟩,c,by rw [hlen],ak,hc,(fun h=>by cases h),?_⟩;rw [hlen];rcases Nat.eq_zero_or_pos k with h0 | h0;{exact Or.inl h0};{obtain ⟨b,o,e,hcl⟩:=hr.get (i:=0) ak;simp only [Option.some.injEq,Addr.mk.injEq,and_true] at e;obtain ⟨rfl,rfl⟩:=e;refine Or.inr ⟨_,_,rfl,fun t ht=>?_⟩;have:=hcl (i+t) ak;rw [ho,Nat.add_assoc,this];simp only [List.getD,List.getElem?_take_of_lt ht,List.getElem?_drop]}
theorem Lc {W:World} {bb off m cap:Nat} {l:List Nat} (h:bN W (.slice (some ⟨bb,off,none⟩) m cap) l) (i k c off' k':Nat) (hk:k'=k) (ho:off'=off+i) (hik:i+k≤m) (hkc:k≤c) (hc:c≤maxLen) :
  bN W (.slice (some ⟨bb,off',none⟩) k' c) ((l.drop i).take k):=by subst hk;exact Lb h i _ c off' ho hik hkc hc
theorem Fy (l:List Nat) (i k t:Nat) (h:t<k):((l.drop i).take k).getD t 0=l.getD (i+t) 0:=by simp only [List.getD,List.getElem?_take_of_lt h,List.getElem?_drop]
theorem AY {l:List Nat} (h:∀ i,l.getD i 0<256) (i k:Nat):∀ t,((l.drop i).take k).getD t 0<256:=fun t=>by by_cases ht:t<k;{rw [Fy _ _ _ _ ht];exact h _};{rw [List.getD,List.getElem?_eq_none (by simp;omega)];decide}
def Told (W:World) (bl:Nat) (D:List Bx.aY) (A:List Value):Prop:=
 ∀ j (h:j<D.length),A[j*2]?=some (.int .i64 D[j].1)∧∃ v,A[j*2+1]?=some v∧dH (bl+1) W (fun W=>bN W v D[j].2)
theorem Told.keep {W W':World} {bl:Nat} {D:List Bx.aY} {A:List Value} (h:Told W bl D A) (hb:Below W.heap.size W W'):Told W' bl D A:=fun j hj=>by obtain ⟨h1,v,h2,h3⟩:=h j hj;exact ⟨h1,v,h2,h3.keep hb⟩
theorem Told.snoc {W:World} {bl:Nat} {D:List Bx.aY} {A:List Value} (h:Told W bl D A) (s:Bx.aY) (v:Value) (hA:D.length*2+1<A.length) (hv:dH (bl+1) W (fun W=>bN W v s.2)) :
  Told ((W.setCell ⟨bl,D.length*2,none⟩ (.int .i64 s.1)).setCell ⟨bl,D.length*2+1,none⟩ v) bl (D++[s]) ((A.set (D.length*2) (.int .i64 s.1)).set (D.length*2+1) v):=fun j hj=>by have hup:∀ {P:World→Prop},dH (bl+1) W P→dH (bl+1) ((W.setCell ⟨bl,D.length*2,none⟩ (.int .i64 s.1)).setCell ⟨bl,D.length*2+1,none⟩ v) P:=fun hp=>(hp.Dz bl _ _ ak).Dz bl _ _ ak;by_cases hjd:j<D.length;{obtain ⟨h1,w,h2,h3⟩:=h j hjd;rw [List.getElem_append_left hjd];refine ⟨?_,w,?_,hup h3⟩;{rw [List.getElem?_set_ne ak,List.getElem?_set_ne ak];exact h1};{rw [List.getElem?_set_ne ak,List.getElem?_set_ne ak];exact h2}};{obtain rfl:j=D.length:=(by simp at hj;omega);rw [List.getElem_append_right aF];simp only [Nat.sub_self,List.getElem_cons_zero];refine ⟨?_,v,?_,hup hv⟩;{rw [List.getElem?_set_ne ak,List.getElem?_set];simp;omega};{rw [List.getElem?_set];simp;omega}}
theorem ahE {W:World} {B bl:Nat} {D:List Bx.aY} {A:List Value} (hblk:aC W bl A 56) (hB:B≤bl) (h:Told W bl D A) (hm:D.length≤maxLen):dH B W (fun W=>fP W (.slice (some ⟨bl,0,none⟩) D.length D.length) D):=fun w'' hw=>by
 have hb2:aC w'' bl A 56:=by have hlt:=hblk.lt;unfold aC at *;rw [hw bl hB hlt];exact hblk
 refine ⟨_,_,rfl,Nat.le_refl _,hm,(fun h=>by cases h),?_⟩;refine Or.inr ⟨bl,0,rfl,fun j hj=>?_⟩;obtain ⟨h1,v,h2,h3⟩:=h j hj;exact ⟨by rw [Nat.zero_add];exact hb2.cell h1,v,by rw [Nat.zero_add];exact hb2.cell h2,h3 w'' fun k hk hl=>hw k ak hl⟩
theorem Tryz.info56:(prog.info? 56).map (fun i=>(i.zero,i.size,i.bytes))=some (some (.agg #[.int .i64 0,.slice none 0 0]),2,32):=aG
theorem ahF (a:Option Addr) (m cap n:Nat) (b:List Nat) (W:World) (hm:m=b.length) (h:bN W (.slice a m cap) b) (hb:∀ i,b.getD i 0<256) (hn:n≤255) :
  Calls prog 88 #[.slice a m cap,.int .i64 n] W fun e W'=>Below W.heap.size W W'∧((lH b n=none∧e=.returned (.tuple #[.slice none 0 0,.bool false])) ∨
   ∃ v L,lH b n=some L∧e=.returned (.tuple #[v,.bool true])∧dH W.heap.size W' (fun W=>fP W v L)):=by
 obtain ⟨i0,hi,hz0,hz1,hz2⟩:=info_parts Tryz.info56;obtain ⟨a',cap',e1,hcap,hcm,hnil,_⟩:=bD.open h;simp only [Value.slice.injEq] at e1;obtain ⟨rfl,hmb,rfl⟩:=e1;rw [←hm] at hcap hnil;have HM:=aj hm;have HA:=aj h;have HB:=aj hb;unfold maxLen at hcm;clear hmb hm h hb;by_cases hc:n≤8∧9+7*n≤m∧m≤100000
 · have HO:=aj (show lH b n=Bx.fq b n 6 (9+7*n) by unfold lH;rw [if_pos (by rw [←HM.out];exact hc)]);generalize lH b n=o at *;obtain ⟨hc1,hc2,hc3⟩:=hc;obtain ⟨bb,off,rfl⟩:∃ bb off,a=some ⟨bb,off,none⟩:=(by obtain ⟨b',off,e,_⟩:=(bD.row HA.out).2.get (i:=0) ak;exact ⟨b',off,e⟩);have mk1:∀ W:World,(Instr.makeSlice 58 (.int .i64 (n:Int)) (.int .i64 (n:Int))).run prog W=_:=fun W=>run_make W 58 56 i0 _ underlying58 hi hz0 .i64 .i64 n n ak ak (by rw [hz2];omega) ak;rw [hz1] at mk1;by_cases h9:cap=9+7*n;case' pos=>have h9a:cap-(9+7*n)=0:=ak;have h9b:cap≤9+7*n:=ak;clear h9
   all_goals
    go_enter func88,ntmps88
    go_upto_region 4 with (go_at_call 136;refine (Ki n _ ak).mono ?_;rintro e w' ⟨rfl,dS⟩;have q9:=dS.symm;subst q9)
    have hmx:9+7*n≤cap:=ak
    go_cut [7,8] (fun s7 s8 wx=>s7=.slice (some ⟨bb,off+6,none⟩) (3+7*n) (cap-6)∧(∃ o8 c8,s8=.slice (some ⟨bb,o8,none⟩) (m-(9+7*n)) c8∧c8≤cap∧Hid (bN W (.slice (some ⟨bb,o8,none⟩) (m-(9+7*n)) c8) (b.drop (9+7*n))))∧Hid (Below W.heap.size W wx))
    case first=>
     go_quiet (fail)
     go_wp2_with fail
     all_goals
      go_meet
      refine ⟨by congr 1;omega,⟨_,_,rfl,ak,?_⟩,bn (Below.refl _ _) _⟩
      have hdt:(b.drop (9+7*n)).take (m-(9+7*n))=b.drop (9+7*n):=List.take_of_length_le (by rw [List.length_drop,←HM.out];exact Nat.le_refl _)
      rw [←hdt]
      first
       | exact Lc HA.out (9+7*n) _ _ _ _ rfl ak ak ak (by unfold maxLen;omega)
       | (have hm9:m=9+7*n:=ak
          have h0:m-(9+7*n)=0:=ak
          rw [h0,List.take_zero]
          exact ⟨_,_,rfl,Nat.zero_le _,by unfold maxLen;omega,(fun h=>by cases h),Or.inl rfl⟩)
    case rest=>
     obtain ⟨rfl,⟨o8,c8,rfl,hc8,aX⟩,eB⟩:=hcut
     go_wp2
     obtain ⟨w3,hw3⟩:=aB (wc.alloc (.cells (madeCells #[.int .i64 0,.slice none 0 0] (n*2)) 56))
     rw [←hw3]
     have HZ3:=aj (show w3.heap.size=wc.heap.size+1 by rw [hw3];simp)
     have hwz:=eB.out.size
     have HB3:=aj (show Below W.heap.size W w3 by rw [hw3];exact eB.out.alloc hwz _)
     have VY:=aj (show aC w3 wc.heap.size (madeCells #[.int .i64 0,.slice none 0 0] (n*2)).toList 56 by rw [hw3];exact aC.new' rfl rfl)
     have HL3:=aj (show (madeCells #[.int .i64 0,.slice none 0 0] (n*2)).toList.length=n*2 by simp [madeCells])
     generalize (madeCells #[.int .i64 0,.slice none 0 0] (n*2)).toList=A0 at *
     obtain ⟨bl,hbl⟩:=aB wc.heap.size
     rw [←hbl] at VY HZ3 hwz ⊢
     clear hw3 eB mk1 hbl hnil
     go_loopw [8,38] (fun s8 Ld wr=>∃ (i q o8 c8:Nat) (D:List Bx.aY) (A:List Value),i≤n∧Ld=.int .i64 i∧q≤m∧s8=.slice (some ⟨bb,o8,none⟩) (m-q) c8∧c8≤cap∧Hid (D.length=i∧A.length=n*2) ∧
      Hid (bN W (.slice (some ⟨bb,o8,none⟩) (m-q) c8) (b.drop q))∧Hid (aC wr bl A 56)∧Hid (Told wr bl D A)∧Hid (Bx.fq b n 6 (9+7*n)=(Bx.fq b (n-i) (6+7*i) q).map (D++·))∧Hid (Below W.heap.size W wr)) (fun _ Ld _=>n-(intOf Ld).toNat)
     case atStart=>exact ⟨0,9+7*n,o8,c8,[],A0,ak,rfl,ak,rfl,hc8,aj ⟨rfl,HL3.out⟩,aX,VY,aj (fun j hj=>absurd hj (Nat.not_lt_zero _)),aj aI,HB3⟩
     case round=>
      obtain ⟨i,q,o8,c8,D,A,hin,rfl,hqm,rfl,hc8,Bz,aX,BK,HT,HC,eB⟩:=hrel
      by_cases hlt:i<n
      · have hmc:m-q≤c8:=by
         obtain ⟨a',c',e,h1,_⟩:=id aX.out
         rw [List.length_drop,←HM.out] at e h1
         simp only [Value.slice.injEq] at e
         omega
        have hcx:i*7<cap-6:=ak
        have hcy:1<cap-6-i*7:=ak
        have hln:((b.drop (6+7*i+1)).take (2+7*n-7*i)).length=2+7*n-7*i:=by rw [List.length_take,List.length_drop,←HM.out];omega
        have E0:=aj (Fy b (6+7*i+1) (2+7*n-7*i) 0 ak)
        have E1:=aj (Fy b (6+7*i+1) (2+7*n-7*i) 1 ak)
        have E2:=aj (Fy b (6+7*i+1) (2+7*n-7*i) 2 ak)
        have T3:=aj (fun v W (h:bN W v ((b.drop (6+7*i+1)).take (2+7*n-7*i)))=>by
         have:=agt v _ W h (by rw [hln];omega) (AY HB.out _ _)
         rw [E0.out,E1.out,E2.out] at this;exact this)
        obtain ⟨z,hz⟩:=aB (Bx.mD (b.getD (6+7*i+1+0) 0) (b.getD (6+7*i+1+1) 0) (b.getD (6+7*i+1+2) 0))
        rw [←hz] at T3
        have hstep:Bx.fq b (n-i) (6+7*i) q=if z+q≤m then (Bx.fq b (n-(i+1)) (6+7*(i+1)) (q+z)).map fun L=>(((b.getD (6+7*i) 0:Nat):Int),(b.drop q).take z)::L else none:=by
         rw [show n-i=(n-(i+1))+1 by omega,Bx.fq,hz,HM.out];rfl
        have HST:=aj hstep
        have hzl:z<16777216:=by
         have h0:=HB.out (6+7*i+1+0);have h1:=HB.out (6+7*i+1+1);have h2:=HB.out (6+7*i+1+2)
         rw [hz];unfold Bx.mD;omega
        have lS:(i:Int)<n:=ak
        have Le:=aj (HA.out.keep eB.out)
        clear hstep hz hln E0 E1 E2
        go_upto_region 11 with (go_at_call 137;refine (T3.out _ _ (Lc Le.out (6+7*i+1) (2+7*n-7*i) _ _ _ ak ak ak ak (by unfold maxLen;omega))).mono ?_;rintro e w4 ⟨rfl,q4,rfl⟩)
        obtain ⟨w4,hw4⟩:=aB (wr.drewN q4)
        rw [←hw4]
        have hb4:Below wr.heap.size wr w4:=by rw [hw4];exact bn (Below.refl _ _) _
        have tO:=aj (aJ eB.out hb4)
        have tQ:=aj (BK.out.keep hb4)
        have cO:=aj (HT.out.keep hb4)
        have Lf:=aj (Le.out.keep hb4)
        clear hw4 hb4 BK HT Le eB
        by_cases Ut:z≤m-q
        · have hst:=HST.out
          rw [if_pos ak] at hst
          have gM:=aj (show Bx.fq b n 6 (9+7*n)=(Bx.fq b (n-(i+1)) (6+7*(i+1)) (q+z)).map ((D++[(((b.getD (6+7*i) 0:Nat):Int),(b.drop q).take z)])++·) by
           rw [HC.out,hst,Option.map_map];congr 1;funext L;simp)
          have Lg:=aj (show bN W (.slice (some ⟨bb,o8,none⟩) z c8) ((b.drop q).take z) by
           have:=Lb aX.out 0 z c8 o8 rfl ak ak (by unfold maxLen;omega)
           rwa [List.drop_zero] at this)
          obtain ⟨cr,co,ce,hce⟩:=(bD.row Lf.out).2.get (i:=6+7*i) ak
          simp only [Option.some.injEq,Addr.mk.injEq,and_true] at ce
          obtain ⟨rfl,rfl⟩:=ce
          have c0:=hce (6+7*i) ak
          have Lh:=HB.out (6+7*i)
          obtain ⟨x,hx⟩:=aB (b.getD (6+7*i) 0)
          rw [←hx] at c0 Lh gM
          simp only [aM] at c0
          have c1:w4.cell? ⟨bb,off+6+i*7,none⟩=some (.int .u8 (x:Nat)):=by rw [←c0];congr 2;omega
          clear hst hce c0 hx HST HC
          go_upto_region 13 with fail
          have hal:i*2+1<A.length:=by rw [Bz.out.2];omega
          have Li:=tQ.out.cell (i:=i*2) (v:=A[i*2]) (List.getElem?_eq_getElem ak)
          have Lj:=tQ.out.cell (i:=i*2+1) (v:=A[i*2+1]) (List.getElem?_eq_getElem ak)
          have fA0:=tQ.out.free (i*2)
          have fA1:=tQ.out.free (i*2+1)
          have hblt:=tQ.out.lt
          have hlz:((b.drop q).take z).length=z:=by rw [List.length_take,List.length_drop,←HM.out];omega
          have CL:=aj (fun W' (hW:Below W.heap.size W W')=>(agu _ _ W' (Lg.out.keep hW) ak).mono (R':=fun e W''=>∃ a5 c5,e=.returned (.slice a5 z c5)∧Below W'.heap.size W' W''∧dH W'.heap.size W'' (fun W=>bN W (.slice a5 z c5) ((b.drop q).take z))) (by
           rintro e W'' ⟨v,rfl,h1,h2⟩
           obtain ⟨a5,c5,rfl,_⟩:=bD.open h2.it
           rw [hlz] at h2 ⊢
           exact ⟨a5,c5,rfl,h1,h2⟩))
          generalize A[i*2]=A1 at Li
          generalize A[i*2+1]=A2 at Lj
          go_region_with ((go_at_call 138;refine (CL.out _ tO.out.drew).mono ?_;rintro e w5 ⟨a5,c5,rfl,VZ,V3⟩;have kX:=aJ (Below.refl w4.heap.size w4).drew VZ;have k1:=aD kX c1;have k2:=aD kX Li;have k3:=aD kX Lj;have k4:=(tQ.out.keep kX).free (i*2);have k5:=(tQ.out.keep kX).free (i*2+1)))
          all_goals
           try rw [show IntKind.i64.wrap (x:Int)=x from IntWalk.i64_in _ ak]
           obtain ⟨w6,dK⟩:=aB ((w5.setCell ⟨bl,i*2,none⟩ (.int .i64 (x:Nat))).setCell ⟨bl,i*2+1,none⟩ (.slice a5 z c5))
           rw [←dK]
           have hdi:=Bz.out.1
           have dP:=aj (show Told w6 bl (D++[(((x:Nat):Int),(b.drop q).take z)]) ((A.set (i*2) (.int .i64 (x:Nat))).set (i*2+1) (.slice a5 z c5)) by
            rw [dK]
            have:=(cO.out.keep kX).snoc (((x:Nat):Int),(b.drop q).take z) (.slice a5 z c5) (by rw [hdi];exact hal) (V3.mono (by show bl+1≤w4.heap.size;omega))
            rw [hdi] at this;exact this)
           have Af:=aj (show aC w6 bl ((A.set (i*2) (.int .i64 (x:Nat))).set (i*2+1) (.slice a5 z c5)) 56 by
            rw [dK];exact ((tQ.out.keep kX).set _ _).set _ _)
           have V4:=aj (show Below W.heap.size W w6 by rw [dK];exact ((aJ tO.out kX).setCell hwz _).setCell hwz _)
           have HSL:=aj (show (b.drop (q+z))=(b.drop q).drop z by rw [List.drop_drop])
           have V5:=aj (show ((D++[(((x:Nat):Int),(b.drop q).take z)]).length=i+1∧((A.set (i*2) (.int .i64 (x:Nat))).set (i*2+1) (.slice a5 z c5)).length=n*2) by
            refine ⟨by rw [List.length_append,hdi];rfl,by rw [List.length_set,List.length_set];exact Bz.out.2⟩)
           clear dK hdi k1 k2 k3 k4 k5 Li Lj fA0 fA1 c1 kX VZ V3 CL
           have hdt:((b.drop q).drop z).take (m-q-z)=(b.drop q).drop z:=List.take_of_length_le (by rw [List.length_drop,List.length_drop,←HM.out];exact Nat.le_refl _)
           by_cases hcz:z<c8
           · have Ll:=aj (show bN W (.slice (some ⟨bb,o8+z,none⟩) (m-(q+z)) (c8-z)) (b.drop (q+z)) by
              rw [HSL.out,←hdt]
              exact Lc aX.out z (m-q-z) (c8-z) (o8+z) _ ak rfl ak ak (by unfold maxLen;omega))
             clear hdt
             go_wp2
             go_roundw
             case rel=>exact ⟨i+1,q+z,o8+z,c8-z,D++[(((x:Nat):Int),(b.drop q).take z)],_,ak,aN,ak,by rw [Nat.sub_sub],ak,V5,Ll,Af,dP,gM,V4⟩
             case measure=>simp [intOf];omega
           · have ajb:c8-z=0:=ak
             have hcz2:c8≤z:=ak
             have Ll:=aj (show bN W (.slice (some ⟨bb,o8,none⟩) (m-(q+z)) 0) (b.drop (q+z)) by
              have e0:m-(q+z)=0:=ak
              have e1:b.drop (q+z)=[]:=List.drop_of_length_le (by rw [←HM.out];omega)
              rw [e0,e1]
              exact ⟨_,_,rfl,Nat.zero_le _,by unfold maxLen;omega,(fun h=>by cases h),Or.inl rfl⟩)
             clear hdt hcz
             go_wp2
             go_roundw
             case rel=>exact ⟨i+1,q+z,o8,0,D++[(((x:Nat):Int),(b.drop q).take z)],_,ak,aN,ak,by rw [Nat.sub_sub],ak,V5,Ll,Af,dP,gM,V4⟩
             case measure=>simp [intOf];omega
        · have hst:=HST.out
          rw [if_neg ak] at hst
          have HF:=aj (show o=none by rw [HO.out,HC.out,hst];rfl)
          have ajc:m-q<z:=ak
          clear hst
          go_wp2
          go_ret2
          exact ⟨tO.out,Or.inl ⟨HF.out,rfl⟩⟩
      · obtain rfl:i=n:=ak
        have hfin:=HC.out
        rw [Nat.sub_self,Bx.fq,Option.map_some,List.append_nil] at hfin
        have HF:=aj (show o=some D by rw [HO.out,hfin])
        have TS:=aj (ahE BK.out hwz HT.out (by have:=Bz.out.1;unfold maxLen;omega))
        have HDI:=aj Bz.out.1
        clear hfin
        go_wp2
        go_ret2
        refine ⟨eB.out,Or.inr ⟨_,D,HF.out,rfl,?_⟩⟩
        have:=TS.out
        rw [HDI.out] at this
        exact this
 · have HO:=aj (show lH b n=none by unfold lH;rw [if_neg (by rw [←HM.out];exact hc)]);have tK:m≤9223372036854775807:=ak;rcases (show 8<n∨(n≤8∧m<9+7*n)∨(n≤8∧9+7*n≤m∧100000<m) by omega) with h1 | ⟨h1,h2⟩ | ⟨h1,h2,h3⟩;all_goals
    clear hc
    go_enter func88,ntmps88
    go_wp2_with (go_at_call 136;refine (Ki n _ ak).mono ?_;rintro e w' ⟨rfl,dS⟩;have q9:=dS.symm;subst q9)
    go_ret2
    exact ⟨Below.refl _ _,Or.inl ⟨HO.out,rfl⟩⟩
theorem V6 (b:List Nat) (hb:∀ i,b.getD i 0<256):∀ (n e q:Nat) (L:List Bx.aY),Bx.fq b n e q=some L→L.length=n∧∀ s∈L,(0≤s.1∧s.1≤255)∧s.2.length≤b.length∧∀ i,s.2.getD i 0<256:=by
 intro n;induction n with
 | zero=>intro e q L h;simp [Bx.fq] at h;subst h;exact ⟨rfl,fun s hs=>by cases hs⟩
 | succ n ih=>
  intro e q L h;rw [Bx.fq] at h;split at h
  · cases hc:Bx.fq b n (e+7) (q+Bx.mD (b.getD (e+1) 0) (b.getD (e+2) 0) (b.getD (e+3) 0)) with
    | none=>rw [hc] at h;cases h
    | some L'=>rw [hc] at h;simp only [Option.map_some,Option.some.injEq] at h;obtain ⟨h1,h2⟩:=ih _ _ L' hc;subst h;refine ⟨by simp [h1],fun s hs=>?_⟩;rcases List.mem_cons.1 hs with rfl | hs;{have:=hb e;refine ⟨⟨aI,by show ((b.getD e 0:Nat):Int)≤255;omega⟩,by simp;omega,AY hb q _⟩};{exact h2 s hs}
  {cases h}
theorem ahG {b:List Nat} (h6:6≤b.length):lH b (b.getD 5 0)=Bx.vB b:=by unfold lH Bx.vB;by_cases h:b.getD 5 0≤8∧9+7*b.getD 5 0≤b.length∧b.length≤100000;{rw [if_pos h,if_pos ⟨h6,h⟩]};{rw [if_neg h,if_neg (fun hh=>h hh.2)]}
open Classical in
theorem V7 {b:List Nat} (h6:6≤b.length):Bx.iq b=match lH b (b.getD 5 0) with | some L=>if Bx.May L∧Bx.file L=b then some L else none | none=>none:=by rw [ahG h6];rfl
theorem ahH {b:List Nat} (h6:b.length<6):Bx.iq b=none:=by unfold Bx.iq Bx.vB;rw [if_neg ak]
theorem BD (L:List Bx.aY) (hb:Bx.Bytes L):∀ i,(Bx.file L).getD i 0<256:=Kl fun x hx=>by unfold Bx.file at hx;rw [List.mem_append,List.mem_append] at hx;rcases hx with (hx | hx) | hx;{exact Km L x hx};{unfold Bx.three at hx;simp at hx;omega};{unfold Bx.bodies at hx;rw [List.mem_flatMap] at hx;obtain ⟨s,hs,hx⟩:=hx;obtain ⟨i,hi,rfl⟩:=List.getElem_of_mem hx;have:=hb s hs i;rwa [List.getD,List.getElem?_eq_getElem hi] at this}
def V8 (b:List Nat) (B:Nat) (W':World) (e:Ending) (c:Int):Prop:=
 (Bx.iq b=none∧e=.returned (.tuple #[.slice none 0 0,.int .i64 c]))∨∃ v L,Bx.iq b=some L∧e=.returned (.tuple #[v,.int .i64 0])∧dH B W' (fun W=>fP W v L)
theorem V9 (a:Option Addr) (m cap:Nat) (b:List Nat) (W:World) (hm:m=b.length) (h:bN W (.slice a m cap) b) (hb:∀ i,b.getD i 0<256) :
  Calls prog 46 #[.slice a m cap] W fun e W'=>Below W.heap.size W W'∧V8 b W.heap.size W' e 2:=by
 have HM:=aj hm;have HA:=aj h;have HB:=aj hb;have hml:m≤maxLen:=by rw [hm];exact bD.len h
 unfold maxLen at hml;clear hm h hb;by_cases h6:m<6
 · have HF:=aj (ahH (b:=b) (by rw [←HM.out];exact h6));go_enter func46,ntmps46;go_wp2;go_ret2
   exact ⟨Below.refl _ _,Or.inl ⟨HF.out,rfl⟩⟩
 · have HU:=aj (V7 (b:=b) (by have:=HM.out;omega));obtain ⟨bb,off,hab,hc⟩:=(bD.row HA.out).2.get (i:=5) ak;subst hab;have c5:=hc 5 ak;have h5:=HB.out 5;have CT:=aj (ahF (some ⟨bb,off,none⟩) m cap (b.getD 5 0) b W HM.out HA.out HB.out ak);have jY:=aj (fun n e q L=>V6 b HB.out n e q L);obtain ⟨x,hx⟩:=aB (b.getD 5 0);rw [←hx] at c5 h5 CT HU;simp only [aM] at c5;clear hc hx;go_enter func46,ntmps46;(go_wp2_with fail);refine CT.out.mono ?_;rintro e w1 ⟨hB1,⟨ho,rfl⟩ | ⟨v,L,ho,rfl,hF⟩⟩
   · have HF:=aj (show Bx.iq b=none by rw [HU.out,ho]);have HB1:=aj hB1;clear ho hB1 CT;go_wp2;go_ret2
     exact ⟨HB1.out,Or.inl ⟨HF.out,rfl⟩⟩
   · have HB1:=aj hB1;have HF:=aj hF;obtain ⟨av,cv,rfl,ajd,aje,_⟩:=fP.open hF.it;have hcut:Bx.fq b x 6 (9+7*x)=some L:=(by unfold lH at ho;split at ho;{exact ho};{cases ho});have ahI:=aj (show b.length≤100000 by
      unfold lH at ho;split at ho;{rename_i hh;exact hh.2.2}
      · cases ho)
     obtain ⟨_,Lm⟩:=jY.out _ _ _ _ hcut;rename_i hLn;clear hLn;have bC:=aj (fun (hh:¬ (Bx.May L∧Bx.file L=b))=>show Bx.iq b=none by rw [HU.out,ho];simp only;rw [if_neg hh]);have BF:=aj Lm;have BI:Bx.Bytes L:=fun s hs=>(Lm s hs).2.2;have tH:=aj BI;clear ho hB1 CT hcut Lm hF HU;by_cases hM:Bx.May L
     · have PK:=aj (Ul av L.length cv L w1 rfl HF.out.it hM tH.out);have pE:=aj hM;clear hM;(go_upto_region 7 with (go_at_call 59;refine PK.out.mono ?_;rintro e w2 ⟨v2,rfl,hB2,hown⟩));have HB2:=aj hB2;have qz:=aj (tC hown (Bx.sZ L).symm);obtain ⟨a2,c2,rfl,_⟩:=bD.open qz.out;have HQ:=aj (KE _ _ (Bx.file L) b w2 qz.out (HA.out.keep (aJ HB1.out HB2.out)) (BD L tH.out) HB.out);clear hown hB2 PK;by_cases heq:Bx.file L=b
       · have HE:=aj (show Bx.iq b=some L from Bx.xC.2 ⟨pE.out,heq⟩);rw [decide_eq_true heq] at HQ;clear heq bC;(go_wp2_with (go_at_call 50;refine HQ.out.mono ?_;rintro e w3 ⟨rfl,dS⟩;have q9:=dS.symm;subst q9));go_ret2
         exact ⟨aJ HB1.out HB2.out,Or.inr ⟨_,L,HE.out,rfl,HF.out.keep HB2.out⟩⟩
       · have HE:=aj (show Bx.iq b=none from bC.out (fun h=>heq h.2));rw [decide_eq_false heq] at HQ;clear heq bC;(go_wp2_with (go_at_call 50;refine HQ.out.mono ?_;rintro e w3 ⟨rfl,dS⟩;have q9:=dS.symm;subst q9));go_ret2
         exact ⟨aJ HB1.out HB2.out,Or.inl ⟨HE.out,rfl⟩⟩
     · have HE:=aj (show Bx.iq b=none from bC.out (fun h=>hM h.1));have PK:=aj (af3 av L.length cv L w1 rfl HF.out.it (fun s hs=>by have:=BF.out s hs;have:=ahI.out;omega) hM);clear hM bC;(go_wp2_with (go_at_call 59;refine PK.out.mono ?_;rintro e w2 ⟨rfl,hB2⟩));go_ret2
       exact ⟨aJ HB1.out hB2,Or.inl ⟨HE.out,rfl⟩⟩
end Go.Proofs.YtjaebndajhppgaaGreatDoor
