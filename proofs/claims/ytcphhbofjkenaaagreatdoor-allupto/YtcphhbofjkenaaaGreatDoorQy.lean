import Derived.Test.YtcphhbofjkenaaaGreatDoorQz
import Derived.WalkKit
import Derived.KernelRfl
namespace Go.Proofs.YtcphhbofjkenaaaGreatDoor
open Go Go.RowKit
theorem aO{p:Prop}(h:p:=by kernel_rfl):p:=h
theorem bK{p:Prop}(h:p:=by go_num):p:=h
theorem uW{p:Prop}(h:p:=by have lU:=yr.out;go_simp):p:=h
theorem dY{p:Prop}(h:p:=by go_simp):p:=h
theorem Ya{p:Prop}(h:p:=by simp[results,results95,go_sem,z0,z1,z2,z3,z4,xQ,dH]):p:=h
theorem CN{p:Prop}(h:p:=by simp[results,results168,go_sem,d0,d1,d2,d3,d4]):p:=h
theorem K5{p:Prop}(h:p:=by simp[results,results171,go_sem,Inf.val,d0,d1,d2,d3,d4]):p:=h
theorem GY{p:Prop}(h:p:=by simp[results,results100,go_sem]):p:=h
theorem NY{p:Prop}(h:p:=by simp[results,results103,go_sem]):p:=h
theorem FE{p:Prop}(h:p:=by simp[results,results52,go_sem]):p:=h
theorem Hv{p:Prop}(h:p:=by simp[results,results53,go_sem]):p:=h
theorem Ix{p:Prop}(h:p:=by simp[results,results28,go_sem]):p:=h
theorem IY{p:Prop}(h:p:=by simp[results,results29,go_sem]):p:=h
theorem afh{p:Prop}(h:p:=by rw[HR.out,<-HT.out];simp[results,results171,go_sem,Inf.val,d0,d1,d2,d3,d4]):p:=h
theorem aaA{p:Prop}(h:p:=by subst e;rw[<-HF.wp]at hq;exact aT HF.at_.cL HF.at_.bN (by decide) hq):p:=h
theorem ac4{p:Prop}(h:p:=by subst e;rw[<-HF.wp]at hq;exact aT HF.at_.dB HF.at_.bN (by decide) hq):p:=h
theorem ahs{p:Prop}(h:p:=by rw[HR.out];simp[results,results171,go_sem,Inf.val,d0,d1,d2,d3,d4]):p:=h
theorem Vj{p:Prop}(h:p:=by rw[HX.out];simp[results,results170,go_sem]):p:=h
theorem N0{p:Prop}(h:p:=by simp[results,results162,go_sem]):p:=h
theorem Nj{p:Prop}(h:p:=by simp[results,results64,go_sem]):p:=h
theorem Sy{p:Prop}(h:p:=by simp[results,results66,go_sem,Inf.val]):p:=h
theorem Qv{p:Prop}(h:p:=by simp[results,results72,go_sem,z0,z1,z2,z3,z4,z5,z6,z7]):p:=h
theorem acr{p:Prop}(h:p:=by have:=HF.at_.bN.frozen 2;rw[HF.wp]at this;exact this):p:=h
theorem Wf{p:Prop}(h:p:=by simp[results,results21,go_sem,z0,z1,z2,z3,z4,xQ,dH]):p:=h
theorem acn{p:Prop}(h:p:=by simp[results,results170,go_sem,eW,d0,d1,d2,d3,d4]):p:=h
theorem Pd{p:Prop}(h:p:=by simp[results,results128,go_sem]):p:=h
theorem Uw{p:Prop}(h:p:=by simp[results,results191,go_sem,c0,c1,c2,c3,c4]):p:=h
theorem acg{p:Prop}(h:p:=by have:=HF.at_.bN.lt;rw[HF.wp]at this;exact this):p:=h
theorem CK{p:Prop}(h:p:=by simp[go_sem,cq]):p:=h
theorem JV{p:Prop}(h:p:=by simp[results,results79,go_sem]):p:=h
theorem MP{p:Prop}(h:p:=by simp[results,results80,go_sem]):p:=h
end Go.Proofs.YtcphhbofjkenaaaGreatDoor
