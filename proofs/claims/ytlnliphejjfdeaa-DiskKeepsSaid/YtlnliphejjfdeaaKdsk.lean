/- Package disk as the landed code has it: its calls' contracts, in one place. No condition of its own. -/
import Derived.Test.YtlnliphejjfdeaaKdp4
import Derived.Test.YtlnliphejjfdeaaKdp6
import Derived.Test.YtlnliphejjfdeaaKdp7
