/-
  What the document's Asks answers in general. Conditions: as NrE names them.
-/
import Derived.Test.YtcoimipgilkmbaaGreatDoorTl
import Derived.Test.YtcoimipgilkmbaaGreatDoorNpc
namespace Go.Proofs.YtcoimipgilkmbaaGreatDoor.np
set_option linter.unusedVariables false
set_option linter.unusedSimpArgs false
set_option maxRecDepth 1000000
set_option maxHeartbeats 16000000
open Go Go.ChangeShapes Go.WideShapes Go.ChangeAt Go.RowKit Go.Shelf
open Go.Proofs.YtcoimipgilkmbaaGreatDoor.nr
open Go.Proofs.YtcoimipgilkmbaaGreatDoor.nl (OutN SlN)
open Go.Proofs.YtcoimipgilkmbaaGreatDoor.tt (Cfg Nt na nt zn bare zd fits row tyne lt_of U grown_refl grown_trans grown_alloc grown_setCells grown_drew grown_drewN Sl Next flat)
open Go.Proofs.YtcoimipgilkmbaaGreatDoor.kk (Ln St zl la ln cfind cdrop cuse cgoes cwrite cturn cput setAt setOf live fF Shp Kept)
open Go.Proofs.YtcoimipgilkmbaaGreatDoor.bk (Bk rem kills puts putE fd fl Nd Rg dead fresh)
open Go.Proofs.YtcoimipgilkmbaaGreatDoor.mrk (Ms rdS wrS meets addE Dom)
open Go.Proofs.YtcoimipgilkmbaaGreatDoor.de (Dl sT gE rF aD)
open Go.Proofs.YtcoimipgilkmbaaGreatDoor.oo (ref)
theorem fold_put (c b:Int) (d:List Int) (hd:d.length=16):Array.foldl (fun (cs:Array Value) (x:Value × Nat)=>cs.setIfInBounds (8 + x.snd) x.fst) #[.int .u8 3,.int .i64 c,.int .i64 (-1),.int .i64 b,.int .u64 0,.int .u8 0,.bool true,.bool false,.int .u32 0,.int .u32 0,.int .u32 0,.int .u32 0,.int .u32 0,.int .u32 0,.int .u32 0,.int .u32 0,.int .u32 0,.int .u32 0,.int .u32 0,.int .u32 0,.int .u32 0,.int .u32 0,.int .u32 0,.int .u32 0] (row d).zipIdx 0 16=na ⟨3,c,-1,b,0,0,true,false,d,hd⟩:=by
  match d,hd with
  | [d0,d1,d2,d3,d4,d5,d6,d7,d8,d9,d10,d11,d12,d13,d14,d15],_=>simp [tt.row,na,nt]
section
variable {P:Pm} {k:Nr} {b:Int} {wr:Bool}
theorem leaf_ready (hb:0 ≤ b∧b < (P.N:Int)) (hw:k.wt=false) (hr:rdy P k b wr=true):askE P k b wr=0∧askR P k b wr=true∧askO P k b wr=[]∧askS P k b wr=k:=by
  have hE:askE P k b wr=0:=by unfold askE;rw [if_neg (by omega),if_neg (by rw [hw];simp),if_pos hr]
  have hg:goesOut P k b wr=false:=by unfold goesOut;rw [hE,hr];rfl
  exact ⟨hE,by unfold askR;rw [hE,hr];rfl,by unfold askO;rw [hg];rfl,by unfold askS;rw [hg];rfl⟩
theorem leaf_busy (hb:0 ≤ b∧b < (P.N:Int)) (hw:k.wt=false) (hr:rdy P k b wr=false) (hx:(bk.look k.bs b).isSome=true ∨ back P k b=true∧k.bs.length=P.m):askE P k b wr=110∧askR P k b wr=false∧askO P k b wr=[]∧askS P k b wr=k:=by
  have hE:askE P k b wr=110:=by
    unfold askE
    rw [if_neg (by omega),if_neg (by rw [hw];simp),if_neg (by rw [hr];simp)]
    rcases hx with hx | hx
    · rw [if_pos hx]
    · rw [if_pos hx];split <;> rfl
  have hg:goesOut P k b wr=false:=by unfold goesOut;rw [hE];rfl
  exact ⟨hE,by unfold askR;rw [hE];rfl,by unfold askO;rw [hg];rfl,by unfold askS;rw [hg];rfl⟩
theorem leaf_goes (hb:0 ≤ b∧b < (P.N:Int)) (hw:k.wt=false) (hr:rdy P k b wr=false) (hx:(bk.look k.bs b).isSome=false) (hy:back P k b=true→k.bs.length ≠ P.m):askE P k b wr=0∧askR P k b wr=false∧askO P k b wr=(if back P k b=true then [putN P k (gone P k b).1,askN P k b wr] else [askN P k b wr])∧askS P k b wr={ ss:=if (gone P k b).2=true then (cdrop P.c k.ss (gone P k b).1.b).1 else k.ss,bs:=if back P k b=true then puts P.N P.m k.bs (gone P k b).1.b (gone P k b).1.d (gone P k b).1.h else k.bs,ms:=k.ms,d:=k.d,ask:=askN P k b wr,wt:=true }:=by
  have hE:askE P k b wr=0:=by
    unfold askE
    rw [if_neg (by omega),if_neg (by rw [hw];simp),if_neg (by rw [hr];simp),if_neg (by rw [hx];simp),if_neg (fun e=>hy e.1 e.2)]
  have hg:goesOut P k b wr=true:=by unfold goesOut;rw [hE,hr];rfl
  exact ⟨hE,by unfold askR;rw [hr];simp,by unfold askO;rw [hg];rfl,by unfold askS;rw [hg];rfl⟩
end
theorem notes {w W W':World} {R:RL} {P:Pm} {k:Nr} {L:List (Nat × Obj)} (m:Mid w W R P k L) {o:Option Nat} (hg:W.grownBy W' o) (ho:∀ g,o=some g→w.heap.size ≤ g):RN W' R P k∧Kept R.any w W':=
  ⟨m.rn.same fun j hj=>hg.block j (m.rn.lt hj) (fun e=>by have:=m.lt j hj;have:=ho j e.symm;omega),
   ⟨hg.os.trans m.kp.os,hg.tape.trans m.kp.tape,hg.output.trans m.kp.output,Nat.le_trans m.kp.size hg.size,fun j hj hn=>(hg.block j (Nat.lt_of_lt_of_le hj m.kp.size) (fun e=>by have:=ho j e.symm;omega)).trans (m.kp.block j hj hn)⟩⟩
section
variable {w:World} {R:RL} {P:Pm} {k:Nr} (h:RN w R P k) (I:Inv P k) (hP:Pok P)
include h I hP
theorem rask_main (b:Int) (wr:Bool) (hb:0 ≤ b∧b < (P.N:Int)) (hw:k.wt=false):Calls Tryz.prog 68 #[.pointer (some ⟨R.q,0,none⟩),.int .i64 b,.bool wr] w fun e w'=>∃ s,e = .returned (.tuple #[.bool (askR P k b wr),s,.int .i64 (askE P k b wr)])∧OutN w w' s (askO P k b wr)∧RN w' R P (askS P k b wr)∧Kept R.any w w':=by
  have H0:=qh (Mid.of h)
  obtain ⟨c0,c1,c2,c3,c4,c5,c6,c7⟩:=h.cfg
  have HDA:=qh fun W=>tt.rdata_any P.c W hP.may.fits
  rw [hP.data] at HDA
  have e0:decide (b < 0)=false:=by simp;omega
  have e1:decide ((P.N:Int) ≤ b)=false:=by simp;omega
  obtain ⟨l,hl⟩:∃ l,(cfind P.c k.ss b).1=l:=⟨_,rfl⟩
  obtain ⟨f,hf⟩:∃ f,(cfind P.c k.ss b).2=f:=⟨_,rfl⟩
  have HF:Hid (∀ W L,Mid w W R P k L→Calls Tryz.prog 32 #[.pointer (some ⟨R.c.b,0,none⟩),.int .i64 b] W fun e W'=>e = .returned (.tuple #[.agg (la l),.bool f])∧Mid w W' R P k L):=qh fun W L m=>by have:=cfind_ m I.ch b;rw [hl,hf] at this;exact this
  obtain ⟨gl,hgl⟩:∃ l,(cgoes P.c k.ss b).1=l:=⟨_,rfl⟩
  obtain ⟨gf,hgf⟩:∃ l,(cgoes P.c k.ss b).2=l:=⟨_,rfl⟩
  have HGO:Hid (∀ W L,Mid w W R P k L→Calls Tryz.prog 107 #[.pointer (some ⟨R.c.b,0,none⟩),.int .i64 b] W fun e W'=>e = .returned (.tuple #[.agg (la gl),.bool gf])∧Mid w W' R P k L):=qh fun W L m=>by have:=cgoes_ m I.ch b;rw [hgl,hgf] at this;exact this
  obtain ⟨bi,hbi⟩:∃ x,(bk.look k.bs b).isSome=x:=⟨_,rfl⟩
  have HBH:Hid (∀ W L,Mid w W R P k L→Calls Tryz.prog 78 #[.pointer (some ⟨R.br,0,none⟩),.int .i64 b] W fun e W'=>e = .returned (.bool bi)∧W=W'):=qh fun W L m=>by have:=bhas m I.rg b;rw [hbi] at this;exact this
  have HVL:Hid (∀ W L l,Mid w W R P k L→_):=qh fun W L l m=>varL m l
  have HZL:Hid (la zl=_):=qh kk.zl_la
  rw [HZL.out] at HVL
  obtain ⟨rd,hrd⟩:∃ x,rdy P k b wr=x:=⟨_,rfl⟩
  have HRD:Hid ((f=false→rd=false)∧(wr=false→f=true→rd=true)∧(wr=true→f=true→decide (2 ≤ l.s)=rd)):=qh (by
    unfold rdy at hrd
    rw [hf] at hrd
    refine ⟨fun e=>by rw [← hrd,e];rfl,fun e e2=>by rw [← hrd,e,e2];rfl,fun e e2=>?_⟩
    rw [← hrd,e,e2]
    have hs:(line P k b).isSome=true:=by rw [← cf2,hf,e2]
    obtain ⟨l',hl'⟩:=Option.isSome_iff_exists.1 hs
    have h1:=cf1 (P:=P) (k:=k) b
    rw [hl',hl] at h1
    have h2:=I.lmay hl'
    have h1:l=l':=h1
    rw [hl,h1]
    obtain ⟨_,h3,h4⟩:=h2
    have h5:(2 ≤ l'.s) ↔ ¬ (l'.s=1):=by omega
    simp [h5])
  obtain ⟨bb,hbb⟩:∃ x,back P k b=x:=⟨_,rfl⟩
  have HBB:Hid ((gf=false→bb=false)∧(gf=true→decide (2 ≤ gl.s)=bb)):=qh (by
    unfold back gone at hbb
    rw [hgf,hgl] at hbb
    refine ⟨fun e=>by rw [← hbb,e];rfl,fun e=>?_⟩
    rw [← hbb,e]
    have hg:(gone P k b).2=true:=by unfold gone;rw [hgf,e]
    obtain ⟨h1,_⟩:=gone_line I hg
    obtain ⟨_,h3,h4⟩:=I.lmay h1
    unfold gone at h3 h4
    rw [hgl] at h3 h4
    have h5:(2 ≤ gl.s) ↔ ¬ (gl.s=1):=by omega
    simp [h5])
  have HW:=qh hw
  have HLR:Hid (rd=true→_):=qh fun e=>leaf_ready hb hw (hrd.trans e)
  have HLB:Hid (rd=false→(bi=true ∨ bb=true∧k.bs.length=P.m)→_):=qh fun e e2=>leaf_busy hb hw (hrd.trans e) (by rw [hbi,hbb];exact e2)
  have HLG:Hid (rd=false→bi=false→(bb=true→k.bs.length ≠ P.m)→askE P k b wr=0∧askR P k b wr=false∧askO P k b wr=(if bb=true then [putN P k gl,askN P k b wr] else [askN P k b wr])∧askS P k b wr={ ss:=if gf=true then (cdrop P.c k.ss gl.b).1 else k.ss,bs:=if bb=true then puts (P.N:Int) P.m k.bs gl.b gl.d gl.h else k.bs,ms:=k.ms,d:=k.d,ask:=askN P k b wr,wt:=true }):=qh fun e e2 e3=>by
    have:=leaf_goes hb hw (hrd.trans e) (hbi.trans e2) (by rw [hbb];exact e3)
    rw [hbb] at this
    unfold gone at this
    rw [hgl,hgf] at this
    exact this
  have HI:=qh I
  have HP:=qh hP
  have HH:=qh h
  clear h I hP hb hw hl hf hgl hgf hbi hrd hbb
  unfold Cfg.cells at HDA
  go_enter Tryz.func68,Tryz.ntmps68
  go_upto_region 6 with (first
    | (go_at_call 31;((with_reducible refine (HDA.out _).mono ?_);rintro e w1 ⟨rfl,hg1⟩;have M1:=qh (H0.out.grown hg1);have d37:=M1.out.rn.c37;rw [HW.out] at d37;have q2:=M1.out.rn.c2;clear hg1))
    | (go_at_call 32;((with_reducible refine (HF.out _ _ M1.out).mono ?_);rintro e w2 ⟨rfl,hm2⟩;have V2:=qh (HVL.out _ _ l hm2);clear hm2))
    | ((with_reducible refine kk.store_any l zl 9 38 w2.heap.size ?_ ?_ ?_ ?_);((rfl));((rfl));((exact V2.out.1))))
  obtain ⟨B1,hB1⟩:∃ x,w2.heap.size=x:=⟨_,rfl⟩
  have M2:=qh V2.out.2
  rw [hB1] at M2 ⊢
  obtain ⟨W2,hW2⟩:∃ x,(w2.alloc (.cells #[.int .i64 0,.int .u8 0,.int .u32 0,.int .u32 0,.int .u32 0,.int .u32 0,.int .u32 0,.int .u32 0,.int .u32 0,.int .u32 0,.int .u32 0,.int .u32 0,.int .u32 0,.int .u32 0,.int .u32 0,.int .u32 0,.int .u32 0,.int .u32 0] 50)).setRow B1 (la l)=x:=⟨_,rfl⟩
  rw [hW2] at M2 ⊢
  clear V2 hB1 hW2 d37 q2 c0 c1 c2 c3 c4 c5 c6 c7 H0 HF M1
  go_cut [49] from 40 to 49 (fun s49 wx=>s49 = .bool rd∧wx=W2)
  case first=>
    have q1:=cellL M2.out (.head _) 1 _ rfl
    cases f
    · have r:=HRD.out.1 rfl
      go_wp2_with fail
      go_meet
      exact ⟨by rw [r],rfl⟩
    · cases wr
      · have r:=HRD.out.2.1 rfl rfl
        go_wp2_with fail
        go_meet
        exact ⟨by rw [r],rfl⟩
      · have r:=HRD.out.2.2 rfl rfl
        go_wp2_with fail
        go_meet
        exact ⟨rfl,rfl⟩
  case rest=>
    obtain ⟨rfl,rfl⟩:=hcut
    have q3:=M2.out.rn.c3
    have q2:=M2.out.rn.c2
    cases rd
    · cases bi
      · go_upto_region 12 with (first
          | (go_at_call 78;((with_reducible refine (HBH.out _ _ M2.out).mono ?_);rintro e w3 ⟨rfl,rfl⟩))
          | (go_at_call 107;((with_reducible refine (HGO.out _ _ M2.out).mono ?_);rintro e w4 ⟨rfl,hm4⟩;have V4:=qh (HVL.out _ _ gl hm4);clear hm4))
          | ((with_reducible refine kk.store_any gl zl 12 63 w4.heap.size ?_ ?_ ?_ ?_);((rfl));((rfl));((exact V4.out.1))))
        obtain ⟨B2,hB2⟩:∃ x,w4.heap.size=x:=⟨_,rfl⟩
        have M4:=qh V4.out.2
        rw [hB2] at M4 ⊢
        obtain ⟨W4,hW4⟩:∃ x,(w4.alloc (.cells #[.int .i64 0,.int .u8 0,.int .u32 0,.int .u32 0,.int .u32 0,.int .u32 0,.int .u32 0,.int .u32 0,.int .u32 0,.int .u32 0,.int .u32 0,.int .u32 0,.int .u32 0,.int .u32 0,.int .u32 0,.int .u32 0,.int .u32 0,.int .u32 0] 50)).setRow B2 (la gl)=x:=⟨_,rfl⟩
        rw [hW4] at M4 ⊢
        clear V4 hB2 hW4 q2 q3 HBH HGO HVL HRD
        go_cut [70] from 65 to 70 (fun s70 wx=>s70 = .bool bb∧wx=W4)
        case first=>
          have q1:=cellL M4.out (.head _) 1 _ rfl
          cases gf
          · have r:=HBB.out.1 rfl
            go_wp2_with fail
            go_meet
            exact ⟨by rw [r],rfl⟩
          · have r:=HBB.out.2 rfl
            go_wp2_with fail
            go_meet
            exact ⟨rfl,rfl⟩
        case rest=>
          obtain ⟨rfl,rfl⟩:=hcut
          obtain ⟨W5,h5⟩:∃ x,x=wc:=⟨_,rfl⟩
          subst h5
          go_upto_if 70 with fail
          go_cut [11,14,15] from 71 to 116 (fun s11 s14 s15 wx=>OutN w wx s11 (if bb=true then [putN P k gl] else [])∧Mid w wx R P { k with bs:=if bb=true then puts (P.N:Int) P.m k.bs gl.b gl.d gl.h else k.bs } [(B2,ol gl),(B1,ol l)]∧(bb=true→k.bs.length ≠ P.m))
          case first=>
            have q3:=M4.out.rn.c3
            have c5:=M4.out.rn.cfg.c5
            cases bb
            · go_wp2_with fail
              go_meet
              exact ⟨OutN.nil _ _,M4.out,by simp⟩
            · have HMZ:Hid (∀ n,Mid w (W5.drewN n) R P k [(B2,ol gl),(B1,ol l)]):=qh fun n=>M4.out.grown (grown_drewN (grown_refl _ none) n)
              by_cases hfl:k.bs.length=P.m
              · have eF:decide (P.c.ba ≤ (k.bs.length:Int))=true:=by have:=HP.out.backs;simp;omega
                have HL:=qh (HLB.out (by simp) (.inr ⟨by simp,hfl⟩))
                have HBL:Hid (∀ n,Calls Tryz.prog 108 #[.pointer (some ⟨R.br,0,none⟩)] (W5.drewN n) fun e W'=>e = .returned (.int .i64 (k.bs.length:Int))∧W5.drewN n=W'):=qh fun n=>blen (M4.out.grown (grown_drewN (grown_refl _ _) n)) HP.out.small HI.out.nd HI.out.rg
                clear hfl
                go_upto_region 13 with fail
                go_quiet ((go_at_call 108;exact Calls.quiet_of_same ((HBL.out _).mono fun _ _ he=>⟨he.1,he.2.symm⟩)))
                go_wp2_with fail
                go_ret3
                rw [HL.out.1,HL.out.2.1,HL.out.2.2.1,HL.out.2.2.2]
                exact ⟨_,rfl,OutN.nil _ _,(HMZ.out _).rn,(HMZ.out _).kp⟩
              · have eF:decide (P.c.ba ≤ (k.bs.length:Int))=false:=by have:=HP.out.backs;have:=HI.out.bl;simp;omega
                have HFL:=qh hfl
                have HBL:Hid (∀ n,Calls Tryz.prog 108 #[.pointer (some ⟨R.br,0,none⟩)] (W5.drewN n) fun e W'=>e = .returned (.int .i64 (k.bs.length:Int))∧W5.drewN n=W'):=qh fun n=>blen (M4.out.grown (grown_drewN (grown_refl _ _) n)) HP.out.small HI.out.nd HI.out.rg
                clear hfl
                go_upto_region 13 with fail
                go_quiet ((go_at_call 108;exact Calls.quiet_of_same ((HBL.out _).mono fun _ _ he=>⟨he.1,he.2.symm⟩)))
                obtain ⟨W6,hW6⟩:∃ x,W5.drewN nq=x:=⟨_,rfl⟩
                have M6:=qh (HMZ.out nq)
                rw [hW6] at M6 ⊢
                clear hW6 HMZ HBL M4 q3 c5 eF nq
                go_upto_region 15 with fail
                have q4:=M6.out.rn.c4
                have g0:=cellL M6.out (.head _) 0 _ rfl
                obtain ⟨mr,hmr⟩:∃ x,k.ms.r gl.b=x:=⟨_,rfl⟩
                obtain ⟨mu,hmu⟩:∃ x,k.ms.w gl.b=x:=⟨_,rfl⟩
                have hpn:putN P k gl=⟨3,P.core,-1,gl.b,0,0,true,mr || mu,gl.d,gl.h⟩:=by rw [← hmr,← hmu];rfl
                have HMH:Hid (∀ n,Calls Tryz.prog 35 #[.pointer (some ⟨R.mr,0,none⟩),.int .i64 gl.b] (W6.drewN n) fun e W'=>e = .returned (.tuple #[.bool mr,.bool mu])∧∃ m,W'=(W6.drewN n).drewN m):=qh fun n=>by
                  have:=mrk.rhas_any (M6.out.grown (grown_drewN (grown_refl _ none) n)).rn.mr gl.b
                  rw [hmr,hmu] at this
                  exact this
                have HPN:=qh hpn
                clear hmr hmu hpn
                go_quiet ((go_at_call 35;exact Calls.quiet_of (HMH.out _)))
                have M7:=qh (M6.out.grown (grown_drewN (grown_refl _ none) nq))
                obtain ⟨W7,hW7⟩:∃ x,W6.drewN nq=x:=⟨_,rfl⟩
                rw [hW7] at M7 ⊢
                clear hW7 HMH M6 q4 g0 nq
                go_upto_region 16 with fail
                cases mr
                · have hpn:(⟨3,P.core,-1,gl.b,0,0,true,mu,gl.d,gl.h⟩:Nt)=putN P k gl:=by rw [HPN.out];rfl
                  obtain ⟨pn,hp⟩:∃ x,putN P k gl=x:=⟨_,rfl⟩
                  rw [hp] at hpn
                  have HPP:=qh hp
                  have fdp:=fold_put P.core gl.b gl.d gl.h
                  have fsp:(na ⟨3,P.core,-1,gl.b,0,0,true,false,gl.d,gl.h⟩).setIfInBounds 7 (.bool mu)=na pn:=by rw [← hpn];rfl
                  have szn:=tt.na_size ⟨3,P.core,-1,gl.b,0,0,true,false,gl.d,gl.h⟩
                  have szd:(row gl.d).size=16:=by simp [tt.row,gl.h]
                  obtain ⟨tb,mb,HTB,haggb,hsizeb,hldb0,_,_⟩:=bk.named29
                  have hldb:=hldb0 B2 2 gl.d gl.h
                  obtain ⟨i0,hi,hz0,hz1,hz2⟩:=info_parts nl.infoN
                  have M8:=qh (drew M7.out)
                  have HS8:=qh (And.intro M8.out.rn.c1 (And.intro (cellL M8.out (.head _) 0 _ rfl) (range_d M8.out (.head _))))
                  rw [HTB.out.1]
                  clear hldb0 hpn hp HPN M7
                  refine wp_region_held_drew (S:=fun W=>W.cell? ⟨R.q,8,none⟩=some (.int .i64 P.core)∧W.cell? ⟨B2,0,none⟩=some (.int .i64 gl.b)∧W.rangeAt B2 2 (gl.d.map U)) (by kernel_rfl) HS8.out (fun hHeld=>?_)
                  obtain ⟨W8,hW8⟩:∃ x,W7.drew=x:=⟨_,rfl⟩
                  rw [hW8] at M8 HS8 hHeld ⊢
                  clear hW8
                  refine tl 0 ?_ rfl ?_ ?_ (tl 1 ?_ rfl ?_ ?_ (tl 2 ?_ rfl ?_ ?_ (tl 3 ?_ rfl ?_ ?_ (tl 4 ?_ rfl ?_ ?_ (tl 5 ?_ rfl ?_ ?_ (tl 6 ?_ rfl ?_ ?_ ?_))))))
                  iterate 7 (rotate_left;(next=>(try simp only [lay]);((intro w0 hSw;obtain ⟨hs1,hs2,hs3⟩:=hSw;have hl0:=hldb _ hs3;clear hs3;go_simp);try (with_reducible rfl)));next=>rfl)
                  try simp only [lay]
                  refine tl 7 ?_ rfl ?_ ?_ (tl 8 ?_ rfl ?_ ?_ (tl 9 ?_ rfl ?_ ?_ (tl 10 ?_ rfl ?_ ?_ (tl 11 ?_ rfl ?_ ?_ (tl 12 ?_ rfl ?_ ?_ (tl 13 ?_ rfl ?_ ?_ ?_))))))
                  iterate 7 (rotate_left;(next=>(try simp only [lay]);((intro w0 hSw;obtain ⟨hs1,hs2,hs3⟩:=hSw;have hl0:=hldb _ hs3;clear hs3;go_simp);try (with_reducible rfl)));next=>rfl)
                  try simp only [lay]
                  have M9:=qh (M8.out.alloc (na pn) 37)
                  have HB9:Hid ((W8.alloc (.cells (na pn) 37)).heap[W8.heap.size]?=some (.cells (na pn) 37 (0,0))):=qh (heap_alloc_new _ _)
                  have HS9:=qh (And.intro M9.out.rn.c1 (And.intro (cellL M9.out (.tail _ (.head _)) 0 _ rfl) (range_d M9.out (.tail _ (.head _)))))
                  have szp:=tt.na_size pn
                  have fdq:=nl.fold_nt pn
                  refine rd 14 rfl fun K hK=>?_
                  go_simp
                  refine hK.out _ _ (HS9.out) (fun hHeld=>?_)
                  clear hK K
                  try simp only [lay]
                  refine rd 15 rfl fun K hK=>?_
                  refine tt.step_append_sl rfl (.tmp 92) (.tmp 106) 43 43 rfl 37 24 i0 (.agg (na zn)) 112 Tryz.underlying43 hi hz0 hz1 hz2 nl.zn_cells (.slice none 0 0) 0 [] rfl (Sl.nil _ _ _) 1 (nt pn) (by simpa [Act.eval] using tt.src_one' (P:=Tryz.prog) (t:=43) (W8.alloc (.cells (na pn) 37)) W8.heap.size (na pn) _ (nt pn) 24 Tryz.underlying43 HB9.out rfl (tt.nt_len pn) (tt.nt_one pn)) (by unfold maxLen;omega) (by omega) ?_
                  intro s10 w10 hs10 hg10 hn10
                  have MA:=qh (tail (M9.out.grown hg10) rfl)
                  have HO:Hid (OutN w w10 s10 [pn]):=qh ⟨by have:=hs10;rw [List.nil_append] at this;rw [SlN,tt.flat_single];exact this,hn10.ge M9.out.kp.size (fun g hg=>by simp [Value.ownBlock] at hg)⟩
                  clear hs10 hg10 hn10
                  refine hK.out _ _ ⟨MA.out.rn.c1,cellL MA.out (.head _) 0 _ rfl,range_d MA.out (.head _)⟩ (fun hHeld=>?_)
                  clear hK K
                  try simp only [lay]
                  refine tl 16 ?_ rfl ?_ ?_ ?_
                  (rotate_left;(next=>((intro w0 hSw;go_simp);try (with_reducible rfl)));next=>rfl)
                  try simp only [lay]
                  refine wpAnyH_done (by kernel_rfl) ?_ _
                  clear fdp fsp szn szp fdq szd hHeld HS8 HS9 HB9 M8 M9 hi hz0 hz1 hz2
                  go_upto_region 17 with fail
                  have q3:=MA.out.rn.c3
                  have g0:=cellL MA.out (.head _) 0 _ rfl
                  have qd:=range_d MA.out (.head _)
                  have hl1:=hldb w10 qd
                  have hl2:=hldb w10.drew qd
                  have HPT:=qh (bput_ (drew MA.out) HP.out.small HI.out.nd HI.out.rg HI.out.bl gl.b gl.d gl.h)
                  have HOD:=qh (HO.out.grown (grown_drew (grown_refl _ none)))
                  rw [HTB.out.1]
                  go_still_tail 8,(by kernel_rfl)
                  change wpList _ _ _ _ _ w10.drew
                  clear hldb
                  go_wp2_with (go_at_call 109;((with_reducible refine HPT.out.mono ?_);rintro e w11 ⟨rfl,hm11,hk11⟩;have MB:=qh hm11;have HOB:=qh (out_kept HOD.out hk11 MA.out.lt);clear hm11 hk11))
                  go_meet
                  rw [HPP.out]
                  exact ⟨HOB.out,MB.out,fun _=>HFL.out⟩
                · have hpn:(⟨3,P.core,-1,gl.b,0,0,true,true,gl.d,gl.h⟩:Nt)=putN P k gl:=by rw [HPN.out];rfl
                  obtain ⟨pn,hp⟩:∃ x,putN P k gl=x:=⟨_,rfl⟩
                  rw [hp] at hpn
                  have HPP:=qh hp
                  have fdp:=fold_put P.core gl.b gl.d gl.h
                  have fsp:(na ⟨3,P.core,-1,gl.b,0,0,true,false,gl.d,gl.h⟩).setIfInBounds 7 (.bool true)=na pn:=by rw [← hpn];rfl
                  have szn:=tt.na_size ⟨3,P.core,-1,gl.b,0,0,true,false,gl.d,gl.h⟩
                  have szd:(row gl.d).size=16:=by simp [tt.row,gl.h]
                  obtain ⟨tb,mb,HTB,haggb,hsizeb,hldb0,_,_⟩:=bk.named29
                  have hldb:=hldb0 B2 2 gl.d gl.h
                  obtain ⟨i0,hi,hz0,hz1,hz2⟩:=info_parts nl.infoN
                  have M8:=qh (drew M7.out)
                  have HS8:=qh (And.intro M8.out.rn.c1 (And.intro (cellL M8.out (.head _) 0 _ rfl) (range_d M8.out (.head _))))
                  rw [HTB.out.1]
                  clear hldb0 hpn hp HPN M7
                  refine wp_region_held_drew (S:=fun W=>W.cell? ⟨R.q,8,none⟩=some (.int .i64 P.core)∧W.cell? ⟨B2,0,none⟩=some (.int .i64 gl.b)∧W.rangeAt B2 2 (gl.d.map U)) (by kernel_rfl) HS8.out (fun hHeld=>?_)
                  obtain ⟨W8,hW8⟩:∃ x,W7.drew=x:=⟨_,rfl⟩
                  rw [hW8] at M8 HS8 hHeld ⊢
                  clear hW8
                  refine tl 0 ?_ rfl ?_ ?_ (tl 1 ?_ rfl ?_ ?_ (tl 2 ?_ rfl ?_ ?_ (tl 3 ?_ rfl ?_ ?_ (tl 4 ?_ rfl ?_ ?_ (tl 5 ?_ rfl ?_ ?_ ?_)))))
                  iterate 6 (rotate_left;(next=>(try simp only [lay]);((intro w0 hSw;obtain ⟨hs1,hs2,hs3⟩:=hSw;have hl0:=hldb _ hs3;clear hs3;go_simp);try (with_reducible rfl)));next=>rfl)
                  try simp only [lay]
                  refine tl 6 ?_ rfl ?_ ?_ (tl 7 ?_ rfl ?_ ?_ (tl 8 ?_ rfl ?_ ?_ (tl 9 ?_ rfl ?_ ?_ (tl 10 ?_ rfl ?_ ?_ ?_))))
                  iterate 5 (rotate_left;(next=>(try simp only [lay]);((intro w0 hSw;obtain ⟨hs1,hs2,hs3⟩:=hSw;have hl0:=hldb _ hs3;clear hs3;go_simp);try (with_reducible rfl)));next=>rfl)
                  try simp only [lay]
                  refine tu 11 rfl ?_
                  try simp only [lay]
                  refine tl 12 ?_ rfl ?_ ?_ (tl 13 ?_ rfl ?_ ?_ ?_)
                  iterate 2 (rotate_left;(next=>(try simp only [lay]);((intro w0 hSw;obtain ⟨hs1,hs2,hs3⟩:=hSw;have hl0:=hldb _ hs3;clear hs3;go_simp);try (with_reducible rfl)));next=>rfl)
                  try simp only [lay]
                  have M9:=qh (M8.out.alloc (na pn) 37)
                  have HB9:Hid ((W8.alloc (.cells (na pn) 37)).heap[W8.heap.size]?=some (.cells (na pn) 37 (0,0))):=qh (heap_alloc_new _ _)
                  have HS9:=qh (And.intro M9.out.rn.c1 (And.intro (cellL M9.out (.tail _ (.head _)) 0 _ rfl) (range_d M9.out (.tail _ (.head _)))))
                  have szp:=tt.na_size pn
                  have fdq:=nl.fold_nt pn
                  refine rd 14 rfl fun K hK=>?_
                  go_simp
                  refine hK.out _ _ (HS9.out) (fun hHeld=>?_)
                  clear hK K
                  try simp only [lay]
                  refine rd 15 rfl fun K hK=>?_
                  refine tt.step_append_sl rfl (.tmp 92) (.tmp 106) 43 43 rfl 37 24 i0 (.agg (na zn)) 112 Tryz.underlying43 hi hz0 hz1 hz2 nl.zn_cells (.slice none 0 0) 0 [] rfl (Sl.nil _ _ _) 1 (nt pn) (by simpa [Act.eval] using tt.src_one' (P:=Tryz.prog) (t:=43) (W8.alloc (.cells (na pn) 37)) W8.heap.size (na pn) _ (nt pn) 24 Tryz.underlying43 HB9.out rfl (tt.nt_len pn) (tt.nt_one pn)) (by unfold maxLen;omega) (by omega) ?_
                  intro s10 w10 hs10 hg10 hn10
                  have MA:=qh (tail (M9.out.grown hg10) rfl)
                  have HO:Hid (OutN w w10 s10 [pn]):=qh ⟨by have:=hs10;rw [List.nil_append] at this;rw [SlN,tt.flat_single];exact this,hn10.ge M9.out.kp.size (fun g hg=>by simp [Value.ownBlock] at hg)⟩
                  clear hs10 hg10 hn10
                  refine hK.out _ _ ⟨MA.out.rn.c1,cellL MA.out (.head _) 0 _ rfl,range_d MA.out (.head _)⟩ (fun hHeld=>?_)
                  clear hK K
                  try simp only [lay]
                  refine tl 16 ?_ rfl ?_ ?_ ?_
                  (rotate_left;(next=>((intro w0 hSw;go_simp);try (with_reducible rfl)));next=>rfl)
                  try simp only [lay]
                  refine wpAnyH_done (by kernel_rfl) ?_ _
                  clear fdp fsp szn szp fdq szd hHeld HS8 HS9 HB9 M8 M9 hi hz0 hz1 hz2
                  go_upto_region 17 with fail
                  have q3:=MA.out.rn.c3
                  have g0:=cellL MA.out (.head _) 0 _ rfl
                  have qd:=range_d MA.out (.head _)
                  have hl1:=hldb w10 qd
                  have hl2:=hldb w10.drew qd
                  have HPT:=qh (bput_ (drew MA.out) HP.out.small HI.out.nd HI.out.rg HI.out.bl gl.b gl.d gl.h)
                  have HOD:=qh (HO.out.grown (grown_drew (grown_refl _ none)))
                  rw [HTB.out.1]
                  go_still_tail 8,(by kernel_rfl)
                  change wpList _ _ _ _ _ w10.drew
                  clear hldb
                  go_wp2_with (go_at_call 109;((with_reducible refine HPT.out.mono ?_);rintro e w11 ⟨rfl,hm11,hk11⟩;have MB:=qh hm11;have HOB:=qh (out_kept HOD.out hk11 MA.out.lt);clear hm11 hk11))
                  go_meet
                  rw [HPP.out]
                  exact ⟨HOB.out,MB.out,fun _=>HFL.out⟩
          case rest=>
            obtain ⟨ho,hm,hnf⟩:=hcut
            have HL:=qh (HLG.out (by simp) (by simp) hnf)
            clear hnf HLG HLB
            obtain ⟨bs1,hbs1⟩:∃ x,(if bb=true then puts (P.N:Int) P.m k.bs gl.b gl.d gl.h else k.bs)=x:=⟨_,rfl⟩
            obtain ⟨pre,hpre⟩:∃ x,(if bb=true then [putN P k gl] else [])=x:=⟨_,rfl⟩
            rw [hbs1] at hm
            rw [hpre] at ho
            have HBS:=qh hbs1
            have HPR:=qh hpre
            have HO:=qh ho
            have M6:=qh hm
            clear ho hm hbs1 hpre M4 M2
            obtain ⟨W6,h6⟩:∃ x,x=wc:=⟨_,rfl⟩
            subst h6
            go_upto_if 117 with fail
            go_cut [] from 118 to 124 (fun wx=>OutN w wx u11 pre∧Mid w wx R P { k with bs:=bs1,ss:=if gf=true then (cdrop P.c k.ss gl.b).1 else k.ss } [(B2,ol gl),(B1,ol l)])
            case first=>
              have q2:=M6.out.rn.c2
              have g0:=cellL M6.out (.head _) 0 _ rfl
              cases gf
              · go_wp2_with fail
                go_meet
                exact ⟨HO.out,M6.out⟩
              · have HDR:=qh (cdrop_ (drew M6.out) HI.out.ch gl.b)
                have HOD:=qh (HO.out.grown (grown_drew (grown_refl _ none)))
                go_upto_region 19 with fail
                go_still_tail 6,(by kernel_rfl)
                change wpList _ _ _ _ _ W6.drew
                go_wp2_with (go_at_call 110;((with_reducible refine HDR.out.mono ?_);rintro e w7 ⟨rfl,hm7,hk7⟩;have M7:=qh hm7;have HO7:=qh (out_kept HOD.out hk7 M6.out.lt);clear hm7 hk7))
                go_meet
                exact ⟨HO7.out,M7.out⟩
            case rest=>
              obtain ⟨ho,hm⟩:=hcut
              obtain ⟨ss1,hss1⟩:∃ x,(if gf=true then (cdrop P.c k.ss gl.b).1 else k.ss)=x:=⟨_,rfl⟩
              rw [hss1] at hm
              have HSS:=qh hss1
              have HO2:=qh ho
              have M7:=qh hm
              clear ho hm hss1 M6 HO
              obtain ⟨W7,h7⟩:∃ x,x=wc:=⟨_,rfl⟩
              subst h7
              go_upto_region 20 with fail
              obtain ⟨st,hst⟩:∃ x,sT k.d=x:=⟨_,rfl⟩
              have HST:=qh (stamp (drew M7.out))
              rw [show ({ k with bs:=bs1,ss:=ss1 }:Nr).d=k.d from rfl,hst] at HST
              obtain ⟨n1,hn1⟩:∃ x,bare 1 P.core (-1) b st 0 false false=x:=⟨_,rfl⟩
              have HE:Hid (#[.int .u8 1,.int .i64 P.core,.int .i64 (-1),.int .i64 b,.int .u64 st,.int .u8 0,.bool false,.bool false,.int .u32 0,.int .u32 0,.int .u32 0,.int .u32 0,.int .u32 0,.int .u32 0,.int .u32 0,.int .u32 0,.int .u32 0,.int .u32 0,.int .u32 0,.int .u32 0,.int .u32 0,.int .u32 0,.int .u32 0,.int .u32 0]=na n1):=qh (by rw [← hn1];rfl)
              have HN1:=qh hn1
              have HSTD:=qh hst
              clear hn1 hst
              have M8:=qh (drew M7.out)
              have HS8:=qh (And.intro M8.out.rn.c1 M8.out.rn.c5)
              have HO8:=qh (HO2.out.grown (grown_drew (grown_refl _ none)))
              obtain ⟨t,nn,HT,hagg,hsize,hld,hsz,hsto⟩:=namedN
              have hsz2:=hsz n1
              have hst2:=hsto R.q 13 n1 _ (there_q M8.out)
              have M9:=qh (np.asked M8.out n1)
              rw [HT.out.2]
              clear hld hsz hsto HO2 M7
              refine wp_region_held_drew (S:=fun W=>W.cell? ⟨R.q,8,none⟩=some (.int .i64 P.core)∧W.cell? ⟨R.q,12,none⟩=some (.pointer (some ⟨R.dg,0,none⟩))) (by kernel_rfl) HS8.out (fun hHeld=>?_)
              refine tl 0 ?_ rfl ?_ ?_ (tl 1 ?_ rfl ?_ ?_ (tl 2 ?_ rfl ?_ ?_ (tl 3 ?_ rfl ?_ ?_ (tl 4 ?_ rfl ?_ ?_ ?_))))
              iterate 5 (rotate_left;(next=>(try simp only [lay]);((intro w0 hSw;obtain ⟨hs1,hs2⟩:=hSw;go_simp);try (with_reducible rfl)));next=>rfl)
              try simp only [lay]
              refine tl 5 ?_ rfl ?_ ?_ (tl 6 ?_ rfl ?_ ?_ (tl 7 ?_ rfl ?_ ?_ (tl 8 ?_ rfl ?_ ?_ (tl 9 ?_ rfl ?_ ?_ ?_))))
              iterate 5 (rotate_left;(next=>(try simp only [lay]);((intro w0 hSw;obtain ⟨hs1,hs2⟩:=hSw;go_simp);try (with_reducible rfl)));next=>rfl)
              try simp only [lay]
              refine rd 10 rfl fun K hK=>?_
              go_simp
              (with_reducible refine HST.out.mono ?_);rintro e w8 ⟨rfl,rfl⟩
              go_wp2_with fail
              refine hK.out _ _ (HS8.out) (fun hHeld=>?_)
              clear hK K
              try simp only [lay]
              refine tl 11 ?_ rfl ?_ ?_ ?_
              (rotate_left;(next=>((intro w0 hSw;go_simp);try (with_reducible rfl)));next=>rfl)
              try simp only [lay]
              rw [HE.out]
              refine tl 12 ?_ rfl ?_ ?_ (tl 13 ?_ rfl ?_ ?_ ?_)
              iterate 2 (rotate_left;(next=>(try simp only [lay]);((intro w0 hSw;go_simp);try (with_reducible rfl)));next=>rfl)
              try simp only [lay]
              refine rd 14 rfl fun K hK=>?_
              go_simp
              refine hK.out _ _ (And.intro M9.out.1.rn.c1 M9.out.1.rn.c5) (fun hHeld=>?_)
              clear hK K
              try simp only [lay]
              refine wpAnyH_done (by kernel_rfl) ?_ _
              have MA:=qh M9.out.1
              have HOA:=qh (out_kept HO8.out M9.out.2 M8.out.lt)
              obtain ⟨WA,hWA⟩:∃ x,W7.drew.setCells R.q 13 (nt n1)=x:=⟨_,rfl⟩
              rw [hWA] at MA HOA ⊢
              clear hWA hHeld HS8 hst2 hsz2 M9 M8 HO8 HST HE
              obtain ⟨n2,hn2⟩:∃ x,askN P k b wr=x:=⟨_,rfl⟩
              have HN2:=qh hn2
              clear hn2
              go_upto_if 139 with fail
              go_cut [] from 140 to 143 (fun wx=>OutN w wx u11 pre∧Mid w wx R P { k with bs:=bs1,ss:=ss1,ask:=n2 } [(B2,ol gl),(B1,ol l)])
              case first=>
                cases wr
                · have hn:n1=n2:=by rw [← HN1.out,← HN2.out,← HSTD.out];rfl
                  subst hn
                  go_wp2_with fail
                  go_meet
                  exact ⟨HOA.out,MA.out⟩
                · have hn:({ n1 with k:=2 }:Nt)=n2:=by rw [← HN1.out,← HN2.out,← HSTD.out];rfl
                  have q13:=MA.out.rn.cask 0 _ rfl
                  have f13:=freeq MA.out 13
                  have MB:=qh (np.kinded MA.out 2)
                  have HOB:=qh (out_kept HOA.out MB.out.2 MA.out.lt)
                  have HNN:=qh hn
                  clear hn
                  go_wp2_with fail
                  go_meet
                  refine ⟨HOB.out,?_⟩
                  have:=MB.out.1
                  rw [show ({ k with bs:=bs1,ss:=ss1,ask:={ n1 with k:=2 } }:Nr)={ k with bs:=bs1,ss:=ss1,ask:=n2 } from by rw [HNN.out]] at this
                  exact this
              case rest=>
                obtain ⟨ho,hm⟩:=hcut
                have HOC:=qh ho
                have MC:=qh hm
                clear ho hm MA HOA
                obtain ⟨WC,hc⟩:∃ x,x=wc:=⟨_,rfl⟩
                subst hc
                have q37:=MC.out.rn.c37
                have f37:=freeq MC.out 37
                have MD:=qh (np.waits MC.out true)
                have HOD:=qh (out_kept HOC.out MD.out.2 MC.out.lt)
                have r13:=MD.out.1.rn.cask
                obtain ⟨i0,hi,hz0,hz1,hz2⟩:=info_parts nl.infoN
                have hl1:pre.length ≤ 1:=by rw [← HPR.out];split <;> simp
                have hsl0:=HOD.out.sl
                obtain ⟨npre,hnpre⟩:∃ x,pre.length=x:=⟨_,rfl⟩
                have HNP:=qh hnpre
                rw [hnpre] at hl1
                have hzx:(WC.setCell ⟨R.q,37,none⟩ (.bool true)).heap.size=WC.heap.size:=by simp [World.setCell]
                have ME:=qh (MD.out.1.alloc (na n2) 37)
                have HOE:=qh (HOD.out.grown (grown_alloc (grown_refl _ none) (.cells (na n2) 37)))
                have HB3:=heap_alloc_new (WC.setCell ⟨R.q,37,none⟩ (.bool true)) (.cells (na n2) 37)
                rw [hzx] at HB3
                have HSL:Hid (Sl ((WC.setCell ⟨R.q,37,none⟩ (.bool true)).alloc (.cells (na n2) 37)) 37 24 u11 npre (flat nt pre)):=qh (by have:=HOE.out.sl;rw [SlN,hnpre] at this;exact this)
                have HSC:=qh (tt.src_one' (P:=Tryz.prog) (t:=43) ((WC.setCell ⟨R.q,37,none⟩ (.bool true)).alloc (.cells (na n2) 37)) WC.heap.size (na n2) _ (nt n2) 24 Tryz.underlying43 HB3 rfl (tt.nt_len n2) (tt.nt_one n2))
                have szn:=tt.na_size n2
                have fdn:=nl.fold_nt n2
                clear hsl0 hnpre HB3 hzx
                go_wp2_with (first
                  | ((with_reducible refine nl.load_o n2 150 R.q 13 ?_ r13 ?_);((rfl)))
                  | ((with_reducible refine tt.append_sl 43 37 24 i0 (.agg (na zn)) 112 _ _ Tryz.underlying43 hi hz0 hz1 hz2 nl.zn_cells u11 npre (flat nt pre) ?_ HSL.out (.slice (some ⟨WC.heap.size,0,none⟩) 1 1) 1 (nt n2) ?_ HSC.out ?_ ?_ ?_);(rfl);(rfl);(unfold maxLen;omega);(omega);(intro s5 x5 hs5 hg5 hn5;have HS5:=qh hs5;have X5:=qh (notes ME.out hg5 (fun g hg=>HOE.out.own g hg));have HO5:=qh (hn5.ge ME.out.kp.size HOE.out.own);clear hs5 hg5 hn5)))
                go_ret3
                rw [HL.out.1,HL.out.2.1,HL.out.2.2.1,HL.out.2.2.2,HN2.out,HBS.out,HSS.out]
                have ho:(if bb=true then [putN P k gl,n2] else [n2])=pre ++ [n2]:=by rw [← HPR.out];split <;> rfl
                rw [ho]
                have hl2:(pre ++ [n2]).length=npre + 1:=by rw [List.length_append,HNP.out];rfl
                refine ⟨_,rfl,⟨?_,HO5.out⟩,X5.out.1,X5.out.2⟩
                have:=HS5.out
                rw [SlN,hl2,tt.flat_append,tt.flat_single]
                exact this
      · have HL:=qh (HLB.out rfl (.inl rfl))
        go_wp2_with (first
          | (go_at_call 78;((with_reducible refine (HBH.out _ _ M2.out).mono ?_);rintro e w3 ⟨rfl,rfl⟩)))
        go_ret3
        rw [HL.out.1,HL.out.2.1,HL.out.2.2.1,HL.out.2.2.2]
        exact ⟨_,rfl,OutN.nil _ _,M2.out.rn,M2.out.kp⟩
    · have HL:=qh (HLR.out rfl)
      go_wp2_with fail
      go_ret3
      rw [HL.out.1,HL.out.2.1,HL.out.2.2.1,HL.out.2.2.2]
      exact ⟨_,rfl,OutN.nil _ _,M2.out.rn,M2.out.kp⟩
theorem rask_any (b:Int) (wr:Bool):Calls Tryz.prog 68 #[.pointer (some ⟨R.q,0,none⟩),.int .i64 b,.bool wr] w fun e w'=>∃ s,e = .returned (.tuple #[.bool (askR P k b wr),s,.int .i64 (askE P k b wr)])∧OutN w w' s (askO P k b wr)∧RN w' R P (askS P k b wr)∧Kept R.any w w':=by
  by_cases hb:b < 0 ∨ (P.N:Int) ≤ b
  · have hE:askE P k b wr=2:=by unfold askE;rw [if_pos hb]
    have hg:goesOut P k b wr=false:=by unfold goesOut;rw [hE];rfl
    have hO:askO P k b wr=[]:=by unfold askO;rw [hg];rfl
    have hS:askS P k b wr=k:=by unfold askS;rw [hg];rfl
    have hR:askR P k b wr=false:=by unfold askR;rw [hE];rfl
    rw [hE,hO,hS,hR]
    exact (rask_bad h hP b wr hb).mono fun e w' hh=>⟨_,hh.1,OutN.nil _ _,h.grown hh.2,Kept.of hh.2⟩
  · cases hw:k.wt with
    | true=>
      have hE:askE P k b wr=8:=by unfold askE;rw [if_neg hb,if_pos hw]
      have hg:goesOut P k b wr=false:=by unfold goesOut;rw [hE];rfl
      have hO:askO P k b wr=[]:=by unfold askO;rw [hg];rfl
      have hS:askS P k b wr=k:=by unfold askS;rw [hg];rfl
      have hR:askR P k b wr=false:=by unfold askR;rw [hE];rfl
      rw [hE,hO,hS,hR]
      exact (rask_waits h hP b wr (by omega) hw).mono fun e w' hh=>⟨_,hh.1,OutN.nil _ _,h.grown hh.2,Kept.of hh.2⟩
    | false=>exact rask_main h I hP b wr (by omega) hw
end
end Go.Proofs.YtcoimipgilkmbaaGreatDoor.np
